/-
  The text of a tree, on plain data: it is read as its words, and so as its nodes.
-/
import Derived.SizedLaws
import Derived.Test.YtfgegmpoejilnaaGreatDoorJGBL
import Derived.Test.YtfgegmpoejilnaaGreatDoorJGBM
namespace Go.Proofs.YtfgegmpoejilnaaGreatDoor
def bytesOf (ts:List ByteArray):List UInt8:=ts.flatMap fun t=>t.data.toList
end Go.Proofs.YtfgegmpoejilnaaGreatDoor
namespace Go.Proofs.YtfgegmpoejilnaaGreatDoor
open Go.ChangeShapes Go.WideShapes Go.ChangeAt Go.RowKit
set_option maxRecDepth 20000
def FrC (gC gT:Nat) (w w':World):Prop:=Kept w.heap.size (fun k=>k=gC∨k=gT) w w'
theorem FrC.refl (gC gT:Nat) (w:World):FrC gC gT w w:=Kept.refl _ _ _
theorem FrC.trans {gC gT:Nat} {w w1 w2:World} (h:FrC gC gT w w1) (k:FrC gC gT w1 w2):FrC gC gT w w2:=⟨k.os.trans h.os,k.tape.trans h.tape,k.output.trans h.output,Nat.le_trans h.size k.size,fun i hi hx=>(k.block i (Nat.lt_of_lt_of_le hi h.size) hx).trans (h.block i hi hx)⟩
theorem frC_below {gC gT:Nat} {w w':World} (h:Below w.heap.size w w'):FrC gC gT w w':=kept_below h (Nat.le_refl _)
theorem frC_drew {gC gT:Nat} {w w':World} (h:FrC gC gT w w'):FrC gC gT w w'.drew:=⟨h.os,h.tape,h.output,h.size,h.block⟩
theorem intT_frC {gC gT:Nat} {w w':World} {A:Option Addr} {c:Nat} {L:List Int} (h:IntT w A c L) (k:FrC gC gT w w') (h1:∀ cs fr,w.heap[gC]?≠some (.cells cs 3 fr)) (h2:∀ cs fr,w.heap[gT]?≠some (.cells cs 3 fr)):IntT w' A c L :=
 h.keep fun b cs fr hb=>k.block b (Array.getElem?_eq_some_iff.1 hb).1 (by
  rintro (e | e)
  ·exact h1 cs fr (by rw [←e];exact hb)
  ·exact h2 cs fr (by rw [←e];exact hb))
def StC (wB:World) (qc qp n gC cC gT:Nat) (D:Nat→Dm) (inp:List Int→Int×Int) (f:Nat→Bool) (w:World):Prop :=
 Below wB.heap.size wB w∧w.heap[qc]?=some (.cells #[.pointer (some ⟨qp,0,none⟩),.slice (some ⟨gC,0,none⟩) (prodN D n) cC,.slice (some ⟨gT,0,none⟩) (prodN D n) (prodN D n)] 91 (0,0))∧∃ L,CelB w gC L∧L.length=prodN D n∧BolB w gT (prodN D n) f∧∀ j,j<prodN D n→(f j=true→L.getD j noC=solV D n inp (placeL D n j))∧(f j=false→L.getD j noC=inp (placeL D n j))
structure CtxA (wB:World) (qc qp g n gC cC gT:Nat) (D:Nat→Dm) (X:Nat→AL) (inp:List Int→Int×Int):Prop where
 hE:(allErr D n).2.2=0
 hR:AllR D n
 hA:PlanV wB qp g n D X
 hg:∀ p,goodC (inp p)
 hq:wB.heap.size≤qc
 hC:wB.heap.size≤gC
 hT:wB.heap.size≤gT
 hcc:prodN D n≤cC
 hc63:cC≤3000
section
variable {wB:World} {qc qp g n gC cC gT:Nat} {D:Nat→Dm} {X:Nat→AL} {inp:List Int→Int×Int} {f:Nat→Bool}
theorem StC.lts {w:World} (h:StC wB qc qp n gC cC gT D inp f w):qc<w.heap.size∧gC<w.heap.size∧gT<w.heap.size∧wB.heap.size≤w.heap.size:=by
 obtain ⟨h1,h2,L,h3,-,h4,-⟩:=h
 exact ⟨(Array.getElem?_eq_some_iff.1 h2).1,h3.lt,h4.lt,h1.size⟩
theorem StC.ne {w:World} (h:StC wB qc qp n gC cC gT D inp f w):qc≠gC∧qc≠gT∧gC≠gT:=by
 obtain ⟨-,h2,L,⟨cur,h3,-⟩,-,h4,-⟩:=h
 unfold BolB at h4
 refine ⟨fun e=>?_,fun e=>?_,fun e=>?_⟩
 ·rw [e,h3] at h2;simp at h2
 ·rw [e,h4] at h2;simp at h2
 ·rw [e,h4] at h3;simp at h3
theorem StC.offI {w:World} (h:StC wB qc qp n gC cC gT D inp f w):(∀ cs fr,w.heap[gC]?≠some (.cells cs 3 fr))∧∀ cs fr,w.heap[gT]?≠some (.cells cs 3 fr):=by
 obtain ⟨-,-,L,⟨cur,h3,-⟩,-,h4,-⟩:=h
 unfold BolB at h4
 refine ⟨fun cs fr e=>?_,fun cs fr e=>?_⟩
 ·rw [h3] at e;simp at e
 ·rw [h4] at e;simp at e
theorem StC.next {w0 w1 w2:World} {f0:Nat→Bool} (h0:StC wB qc qp n gC cC gT D inp f0 w0) (h:StC wB qc qp n gC cC gT D inp f w1) (hB:Below w0.heap.size w1 w2):StC wB qc qp n gC cC gT D inp f w2:=by
 obtain ⟨l1,l2,l3,l4⟩:=h0.lts
 obtain ⟨h1,h2,L,h3,h5,h4,h6⟩:=h
 exact ⟨⟨hB.os.trans h1.os,hB.tape.trans h1.tape,hB.output.trans h1.output,Nat.le_trans h1.size hB.size,fun i hi=>(hB.block i (by omega)).trans (h1.block i hi)⟩,(hB.block qc l1).trans h2,L,h3.same (hB.block gC l2),h5,(hB.block gT l3).trans h4,h6⟩
theorem StC.drew {w:World} (h:StC wB qc qp n gC cC gT D inp f w):StC wB qc qp n gC cC gT D inp f w.drew:=h.next h (below_drewN (Below.refl _ _) 1)
theorem StC.cells {w:World} (h:StC wB qc qp n gC cC gT D inp f w):w.cell? ⟨qc,0,none⟩=some (.pointer (some ⟨qp,0,none⟩))∧w.cell? ⟨qc,1,none⟩=some (.slice (some ⟨gC,0,none⟩) (prodN D n) cC)∧w.cell? ⟨qc,2,none⟩=some (.slice (some ⟨gT,0,none⟩) (prodN D n) (prodN D n)):=by
 obtain ⟨-,hq,-⟩:=h
 exact ⟨by simp [World.cell?,hq],by simp [World.cell?,hq],by simp [World.cell?,hq]⟩
theorem StC.put {w:World} (h:StC wB qc qp n gC cC gT D inp f w) {x:Nat} (hx:x<prodN D n) {ra rb:Int} (hv:solV D n inp (placeL D n x)=(ra,rb)) (h1:wB.heap.size≤gC) (h2:wB.heap.size≤gT):StC wB qc qp n gC cC gT D inp (fun j=>if j=x then true else f j) (((w.setCell ⟨gC,x*2,none⟩ (.int .i64 ra)).setCell ⟨gC,x*2+1,none⟩ (.int .i64 rb)).setCell ⟨gT,x,none⟩ (.bool true)):=by
 obtain ⟨n1,n2,n3⟩:=h.ne
 obtain ⟨hB,hq,L,hC,hL,hT,hI⟩:=h
 refine ⟨below_set (below_set (below_set hB h1) h1) h2,?_,L.set x (ra,rb),?_,by rw [List.length_set];exact hL,?_,fun j hj=>?_⟩
 ·rw [setCell_off _ _ _ _ _ n2,setCell_off _ _ _ _ _ n1,setCell_off _ _ _ _ _ n1]
  exact hq
 ·exact (hC.set (by omega) ra rb).same (setCell_off _ _ _ _ _ n3)
 ·refine BolB.set (f:=f) ?_ fun j _=>rfl
  unfold BolB at hT ⊢
  rw [setCell_off _ _ _ _ _ n3.symm,setCell_off _ _ _ _ _ n3.symm]
  exact hT
 ·by_cases e:j=x
  ·subst e
   refine ⟨fun _=>?_,fun h=>by simp at h⟩
   rw [List.getD_eq_getElem?_getD,List.getElem?_set_self (by omega)]
   exact hv.symm
  ·simp only [if_neg e]
   rw [List.getD_eq_getElem?_getD,List.getElem?_set_ne (fun h=>e h.symm),←List.getD_eq_getElem?_getD]
   exact hI j hj
theorem frC_put {w y:World} {x:Nat} {a b c:Value} (h:FrC gC gT w y):FrC gC gT w (((y.setCell ⟨gC,x*2,none⟩ a).setCell ⟨gC,x*2+1,none⟩ b).setCell ⟨gT,x,none⟩ c):=⟨h.os,h.tape,h.output,by simp only [World.size_setCell];exact h.size,fun i hi hx=>by
 rw [setCell_off _ _ _ _ _ (fun e=>hx (Or.inr e)),setCell_off _ _ _ _ _ (fun e=>hx (Or.inl e)),setCell_off _ _ _ _ _ (fun e=>hx (Or.inl e))]
 exact h.block i hi hx⟩
theorem nds_near (hX:CtxA wB qc qp g n gC cC gT D X inp) {x:Nat} (hx:x<prodN D n) {z:Int} (hz:z∈ndsX D n x):∃ y:Nat,z=(y:Int)∧y<prodN D n∧msrTo D (placeL D n y) n<msrTo D (placeL D n x) n:=by
 have hP:=placeL_in (D:=D) (n:=n) (x:=x) hX.hE
 rcases by_in D (placeL D n x) n with h | ⟨b,h,hb⟩
 ·rw [nds_leaf (by omega)] at hz;cases hz
 ·have hp0:=hP.lo b hb
  have hp1:=hP.hi b hb
  have hm:((placeL D n x).getD b 0).toNat<(D b).n:=by omega
  rw [nds_by h,List.mem_map] at hz
  obtain ⟨k,hk,rfl⟩:=hz
  have hk1:=(neW_mem (hX.hR b hb) hm k).1 hk
  have hk2:=mNd_in hk1
  obtain ⟨y,e1,e2,e3,-⟩:=putN_at hX.hE hb hx hk2.1 hk2.2
  refine ⟨y,e1,e2,?_⟩
  rw [e3]
  have hrk:=rk_less (hX.hR b hb) hm hk1
  rw [Int.toNat_of_nonneg hp0] at hrk
  exact (msr_less (by rw [hP.len];exact hb) hrk n).2 hb
end
section
variable {wB:World} {qc qp g n gC cC gT:Nat} {D:Nat→Dm} {X:Nat→AL} {inp:List Int→Int×Int}
set_option maxHeartbeats 4000000 in
theorem ctell_told (hX:CtxA wB qc qp g n gC cC gT D X inp) (x:Nat) (f:Nat→Bool) (w:World) (hx:x<prodN D n) (hS:StC wB qc qp n gC cC gT D inp f w) (hf:f x=true) :
  Calls Tryz.prog 37 #[.pointer (some ⟨qc,0,none⟩),.int .i64 x] w fun e w'=>e=.returned .nilIface∧w'=w:=by
 obtain ⟨-,-,hp3,-⟩:=allErr_some hX.hE
 obtain ⟨l1,l2,l3,-⟩:=hS.lts
 obtain ⟨c0,c1,c2⟩:=hS.cells
 obtain ⟨-,-,L,-,-,hT,-⟩:=hS
 have ct:=hT.cell hx
 rw [hf] at ct
 generalize prodN D n=N at *
 have hNI:(N:Int)≤3000:=by omega
 have hxI:(x:Int)<(N:Int):=by omega
 clear hX hT hf
 go_enter Tryz.func37,Tryz.ntmps37
 go_wp2_with fail
 go_ret
 exact ⟨rfl,rfl⟩
set_option maxHeartbeats 16000000 in
theorem ctell_new (hX:CtxA wB qc qp g n gC cC gT D X inp) (x:Nat) (f:Nat→Bool) (w:World) (hx:x<prodN D n) (hS:StC wB qc qp n gC cC gT D inp f w) (hf:f x=false)
  (ih:∀ (y:Nat) (f1:Nat→Bool) (w1:World),y<prodN D n→msrTo D (placeL D n y) n<msrTo D (placeL D n x) n→StC wB qc qp n gC cC gT D inp f1 w1→Calls Tryz.prog 37 #[.pointer (some ⟨qc,0,none⟩),.int .i64 y] w1 fun e w2=>e=.returned .nilIface∧∃ f2,StC wB qc qp n gC cC gT D inp f2 w2∧(∀ j,f1 j=true→f2 j=true)∧f2 y=true∧FrC gC gT w1 w2) :
  Calls Tryz.prog 37 #[.pointer (some ⟨qc,0,none⟩),.int .i64 x] w fun e w'=>e=.returned .nilIface∧∃ f2,StC wB qc qp n gC cC gT D inp f2 w'∧(∀ j,f j=true→f2 j=true)∧f2 x=true∧FrC gC gT w w':=by
 obtain ⟨hn1,hn4,hp3,hd⟩:=allErr_some hX.hE
 obtain ⟨l1,l2,l3,-⟩:=hS.lts
 obtain ⟨c0,c1,c2⟩:=hS.cells
 have HX:Hid (CtxA wB qc qp g n gC cC gT D X inp):=hX
 have HS:Hid (StC wB qc qp n gC cC gT D inp f w):=hS
 have HIh:Hid (∀ (y:Nat) (f1:Nat→Bool) (w1:World),y<prodN D n→msrTo D (placeL D n y) n<msrTo D (placeL D n x) n→StC wB qc qp n gC cC gT D inp f1 w1→Calls Tryz.prog 37 #[.pointer (some ⟨qc,0,none⟩),.int .i64 y] w1 fun e w2=>e=.returned .nilIface∧∃ f2,StC wB qc qp n gC cC gT D inp f2 w2∧(∀ j,f1 j=true→f2 j=true)∧f2 y=true∧FrC gC gT w1 w2):=ih
 have hnd:=pneeds_any qp g n D X x w hX.hR hX.hE hx (hX.hA.later hS.1)
 obtain ⟨-,-,L0,-,-,hT0,-⟩:=id hS
 have ct:=hT0.cell hx
 rw [hf] at ct
 have HXx:Hid (x<prodN D n):=hx
 have hcc:=hX.hcc
 have hc63:=hX.hc63
 obtain ⟨N,hN⟩:∃ N,prodN D n=N:=⟨_,rfl⟩
 have HN:Hid (prodN D n=N):=hN
 rw [hN] at hx hp3 c1 c2 hcc
 have hNI:(N:Int)≤3000:=by omega
 have hxI:(x:Int)<(N:Int):=by omega
 have hcI:(N:Int)≤(cC:Int):=by omega
 clear hX hS hT0 hf ih hd hN
 go_enter Tryz.func37,Tryz.ntmps37
 go_wp2_with fail
 refine hnd.mono ?_
 rintro e w2 ⟨⟨A2,c2',T,rfl,hI2,hT2,hM2,-⟩,hb2⟩
 have HB2:Hid (Below w.heap.size w w2):=hb2
 have HI2:Hid (IntT w2 A2 c2' T):=hI2
 have HM2:Hid (∀ z,z∈T↔z∈ndsX D n x):=hM2
 have hl12:=hT2.2.1
 obtain ⟨M,hM⟩:∃ M,T.length=M:=⟨_,rfl⟩
 have HM:Hid (T.length=M):=hM
 rw [hM] at hl12 ⊢
 have hMI:(M:Int)≤12:=by omega
 have HS2:Hid (StC wB qc qp n gC cC gT D inp f w2):=HS.out.next HS.out hb2
 clear hb2 hI2 hT2 hM2 hM hnd c0 c1 c2 ct
 go_wp2_with fail
 go_loopg [32] M (fun gg s32 wr => ∃ (k:Nat) (fk:Nat→Bool),k≤M∧gg=M-k∧s32=.int .i64 k∧Hid (StC wB qc qp n gC cC gT D inp fk wr)∧Hid ((∀ j,f j=true→fk j=true)∧∀ i,i<k→fk (T.getD i 0).toNat=true)∧Hid (FrC gC gT w2 wr))
 case atStart=>exact ⟨0,f,Nat.zero_le _,rfl,rfl,HS2,hid_of ⟨fun j h=>h,fun i hi=>absurd hi (Nat.not_lt_zero _)⟩,FrC.refl _ _ _⟩
 case round =>
  obtain ⟨k,fk,hk,rfl,rfl,HSk,HFk,HFr⟩:=hrel
  by_cases hlt:k<M
  ·have hki:(k:Int)<(M:Int):=by omega
   have hkT:k<T.length:=by rw [HM.out];exact hlt
   obtain ⟨o1,o2⟩:=HS2.out.offI
   obtain ⟨hcS,-,hS0 | ⟨bs,cs,fr,rfl,hbS,hcl⟩⟩:=intT_frC HI2.out HFr.out o1 o2
   ·have:=HM.out;rw [hS0] at this;simp at this;omega
   have cx:=hcl k hkT
   have hbs:bs<wr.heap.size:=(Array.getElem?_eq_some_iff.1 hbS).1
   rw [HM.out] at hcS
   obtain ⟨y,hy,hyN,hym⟩:=nds_near HX.out HXx.out ((HM2.out _).1 (getD_memI hkT))
   rw [hy] at cx
   have hcall:=HIh.out y fk wr hyN hym HSk.out
   have HY:Hid (T.getD k 0=(y:Int)):=hy
   clear hcl hbS hy hym o1 o2 hyN
   go_wp2_with fail
   refine hcall.mono ?_
   rintro e w3 ⟨rfl,f2,hS3,hm3,hf3,hF3⟩
   have HS3:Hid (StC wB qc qp n gC cC gT D inp f2 w3):=hS3
   have HF3:Hid ((∀ j,f j=true→f2 j=true)∧∀ i,i<k+1→f2 (T.getD i 0).toNat=true):=by
    refine ⟨fun j h=>hm3 j (HFk.out.1 j h),fun i hi=>?_⟩
    by_cases e:i=k
    ·rw [e,HY.out,Int.toNat_natCast];exact hf3
    ·exact hm3 _ (HFk.out.2 i (by omega))
   have HFr3:Hid (FrC gC gT w2 w3):=HFr.out.trans hF3
   clear hcall hS3 hm3 hf3 hF3 cx
   go_wp2_with fail
   go_roundg (M-(k+1))
   case measure=>omega
   case rel=>exact ⟨k+1,f2,by omega,rfl,by go_num,HS3,HF3,HFr3⟩
  ·have hke:k=M:=by omega
   subst hke
   obtain ⟨c0,c1,c2⟩:=HSk.out.cells
   obtain ⟨m1,m2,m3,-⟩:=HSk.out.lts
   have HTd:Hid (∀ z∈ndsX D n x,fk z.toNat=true):=fun z hz=>by
    have hz2:=(HM2.out z).2 hz
    obtain ⟨i,hi,e⟩:=List.getElem_of_mem hz2
    have h:=HFk.out.2 i (by rw [HM.out] at hi;exact hi)
    rw [List.getD_eq_getElem?_getD,List.getElem?_eq_getElem hi,Option.getD_some,e] at h
    exact h
   have HTl:Hid (∀ w',Below wr.heap.size wr w'→Calls Tryz.prog 29 #[.pointer (some ⟨qp,0,none⟩),.slice (some ⟨gC,0,none⟩) N cC,.int .i64 x] w' fun e w''=>e=.returned (.tuple #[.agg #[.int .i64 (solV D n inp (placeL D n x)).1,.int .i64 (solV D n inp (placeL D n x)).2],.nilIface])∧Below w'.heap.size w' w''):=fun w' hB=>by
    have hS':=HSk.out.next HSk.out hB
    obtain ⟨hBb,-,L,hCL,hLl,-,hIn⟩:=hS'
    have hXx:=HX.out
    have hnear:∀ z∈ndsX D n x,L.getD z.toNat noC=solV D n inp (placeL D n z.toNat):=fun z hz=>by
     obtain ⟨y,rfl,hy,-⟩:=nds_near hXx HXx.out hz
     have:=HTd.out _ hz
     rw [Int.toNat_natCast] at this ⊢
     exact (hIn y hy).1 this
    have hlf:byTo D (placeL D n x) n<0→L.getD x noC=inp (placeL D n x):=fun h=>by
     cases hfx:fk x with
     | true=>rw [(hIn x HXx.out).1 hfx,sol_leaf inp h]
     | false=>exact (hIn x HXx.out).2 hfx
    have h:=ptell_any qp g n D X x (some ⟨gC,0,none⟩) cC L w' hXx.hR hXx.hE HXx.out (hXx.hA.later hBb) hLl ⟨by rw [hLl];exact hXx.hcc,by have:=hXx.hc63;omega,Or.inr ⟨gC,0,rfl,hCL.celAt⟩⟩ (fun z hz=>by
     rw [hnear z hz]
     exact good_sol hXx.hR hXx.hg _ _ (placeL_in hXx.hE) (Nat.lt_succ_self _))
    rw [tl_sol hXx.hR hXx.hE HXx.out hlf hnear,HN.out] at h
    exact h
   obtain ⟨⟨ra,rb⟩,hRe⟩:∃ R,solV D n inp (placeL D n x)=R:=⟨_,rfl⟩
   have HRe:Hid (solV D n inp (placeL D n x)=(ra,rb)):=hRe
   rw [hRe] at HTl
   simp only at HTl
   rw [HN.out] at c1 c2
   have HKp:Hid (∀ w',Below wr.heap.size wr w'→Below wr.heap.size wr w'∧w'.cell? ⟨qc,0,none⟩=some (.pointer (some ⟨qp,0,none⟩))∧w'.cell? ⟨qc,1,none⟩=some (.slice (some ⟨gC,0,none⟩) N cC)):=fun w' h=>⟨h,(h.cell (p:=⟨qc,0,none⟩) m1).trans c0,(h.cell (p:=⟨qc,1,none⟩) m1).trans c1⟩
   clear hRe
   go_upto_region 13 with fail
   go_cut [6,10] from 11 (fun s6 s10 wx=>s6=.nilIface∧∃ q,s10=.pointer (some ⟨q,0,none⟩)∧At q ra rb wx∧wr.heap.size≤q∧Below wr.heap.size wr wx)
   case first =>
    go_region_held3 (fun w'=>Below wr.heap.size wr w'∧w'.cell? ⟨qc,0,none⟩=some (.pointer (some ⟨qp,0,none⟩))∧w'.cell? ⟨qc,1,none⟩=some (.slice (some ⟨gC,0,none⟩) N cC))
     ((refine HKp.out _ ?_;go_grown;done))
     ((go_at_call 29;refine (HTl.out _ (by go_grown)).mono ?_;rintro e w7 ⟨rfl,hb7⟩;have hN7:=onB (W0:=wr) (by go_grown) hb7;have hy7:=hN7.size;obtain ⟨hc7,hf7⟩:=bcell hb7;have hz7:=bsize hb7;(try simp [Nat.add_one_le_iff] at hz7);(try have ha7:wr.heap.size<w7.heap.size:=by omega);clear hb7))
    all_goals go_wp2_with fail
    all_goals go_meet
    all_goals
     refine ⟨rfl,_,rfl,?_,by (first | omega | (simp;omega) | simp),by go_grown⟩
     first
      | exact At.new _ _ _ _
      | (refine At.set (u:=.int .i64 0) (v:=.int .i64 0) (by omega) ?_ ?_ <;> (rw [hc7 _ _ (by simp)];simp;done))
      | (refine At.set (u:=.int .i64 0) (v:=.int .i64 0) (by omega) ?_ ?_ <;> (rw [hc7 _ _ (by omega)];simp;done))
   case rest =>
   obtain ⟨rfl,q,rfl,⟨hql,p0,p1⟩,hqw,hBc⟩:=hcut
   obtain ⟨w9,rfl⟩:∃ w9:World,w9=wc:=⟨_,rfl⟩
   have hS9:=HSk.out.next HSk.out hBc
   have HS9:Hid (StC wB qc qp n gC cC gT D inp fk w9):=hS9
   obtain ⟨d0,d1,d2⟩:=hS9.cells
   rw [HN.out] at d1 d2
   obtain ⟨j1,j2,j3,-⟩:=hS9.lts
   obtain ⟨n1,n2,n3⟩:=hS9.ne
   have HFr9:Hid (FrC gC gT w w9):=(frC_below HB2.out).trans (HFr.out.trans (frC_below hBc))
   obtain ⟨-,-,Lx,hCx,hLx,hTx,-⟩:=hS9
   rw [HN.out] at hLx hTx
   obtain ⟨r0,r1⟩:=hCx.at (k:=x) (by omega)
   have r2:=hTx.cell hx
   have f0:=hCx.frozen (x*2)
   have f1:=hCx.frozen (x*2+1)
   have f2:=hTx.frozen x
   have HFin:Hid (StC wB qc qp n gC cC gT D inp (fun j=>if j=x then true else fk j) (((w9.setCell ⟨gC,x*2,none⟩ (.int .i64 ra)).setCell ⟨gC,x*2+1,none⟩ (.int .i64 rb)).setCell ⟨gT,x,none⟩ (.bool true))∧FrC gC gT w (((w9.setCell ⟨gC,x*2,none⟩ (.int .i64 ra)).setCell ⟨gC,x*2+1,none⟩ (.int .i64 rb)).setCell ⟨gT,x,none⟩ (.bool true))):=⟨HS9.out.put HXx.out HRe.out HX.out.hC HX.out.hT,frC_put HFr9.out⟩
   have HMo:Hid (∀ j,f j=true→(if j=x then true else fk j)=true):=by
    intro j h
    by_cases e:j=x
    ·rw [if_pos e]
    ·rw [if_neg e];exact HFk.out.1 j h
   have hqC:gC<q:=by omega
   have hqT:gT<q:=by omega
   clear hCx hLx hTx hBc c0 c1 c2 d0
   go_wp2_with fail
   go_region
   all_goals go_wp2_with fail
   all_goals go_ret
   all_goals exact ⟨rfl,_,HFin.out.1.drew,HMo.out,if_pos rfl,frC_drew HFin.out.2⟩
theorem ctell_all (hX:CtxA wB qc qp g n gC cC gT D X inp):∀ (F x:Nat) (f:Nat→Bool) (w:World),x<prodN D n→msrTo D (placeL D n x) n<F→StC wB qc qp n gC cC gT D inp f w→Calls Tryz.prog 37 #[.pointer (some ⟨qc,0,none⟩),.int .i64 x] w fun e w2=>e=.returned .nilIface∧∃ f2,StC wB qc qp n gC cC gT D inp f2 w2∧(∀ j,f j=true→f2 j=true)∧f2 x=true∧FrC gC gT w w2:=by
 intro F
 induction F with
 | zero=>intro x f w _ h;omega
 | succ F ihF =>
  intro x f w hx hF hS
  cases hf:f x with
  | true =>
   refine (ctell_told hX x f w hx hS hf).mono ?_
   rintro e w2 ⟨rfl,rfl⟩
   exact ⟨rfl,f,hS,fun j h=>h,hf,FrC.refl _ _ _⟩
  | false=>exact ctell_new hX x f w hx hS hf fun y f1 w1 hy hm h=>ihF y f1 w1 hy (by omega) h
end
def ndmB:Mem:=⟨⟨#[98]⟩,-1,0,⟨#[]⟩⟩
def ndmC:Mem:=⟨⟨#[99]⟩,0,1,⟨#[]⟩⟩
def ndmM (i:Nat):Mem:=if i=0 then ndmB else ndmC
def ndmD:Dm:=⟨⟨#[97]⟩,0,2,ndmM⟩
def ndmO:Nat→Dm:=fun _=>ndmD
theorem ndm_dim:dimErr ndmD=(-1,0):=by decide +kernel
theorem ndm_mem:∀ j:Fin 2,mErr ndmD j=0:=by decide +kernel
theorem ndm_nd:ndL ndmD=[[1],[]]:=by decide +kernel
theorem ndm_err:rErr ndmD=(-1,0):=re3 (by rw [ndm_dim]) (fun j hj=>ndm_mem ⟨j,hj⟩) fun j _=>by rw [ndm_nd,←one_nd];exact one_acyc j
theorem ndm_all:(allErr ndmO 1).2.2=0:=by decide +kernel
theorem ndm_ru:(ruErr ndmO 1).2.2=0:=ru_zero ndm_all fun i _=>by show (rErr ndmD).2=0;rw [ndm_err]
theorem ndm_prod:prodN ndmO 1=2:=by decide +kernel
theorem bare_rule {d:Dm} (hd:(dimErr d).2=0) (hf:∀ k,k<d.n→(d.mem k).formula.size=0):(rErr d).2=0:=by
 have ht:=Tr.of hd
 rw [re3 hd (fun j hj=>by unfold mErr;rw [if_pos (hf j hj)]) fun j _=>by
  refine up_acyc (fun a x hx=>?_) j
  unfold rowN at hx
  by_cases ha:a.toNat<d.n
  ·rw [ndL_at ha] at hx
   unfold mNd at hx
   obtain ⟨m,rfl,hm,hb⟩:=selTo_mem x hx
   unfold needB at hb
   rw [if_pos (hf _ ha),Bool.and_eq_true] at hb
   have h1:(d.mem m).parent=((a.toNat:Nat):Int):=by have:=hb.1;unfold partB at this;simpa using this
   have h2:=(ht m hm).2
   omega
  ·rw [List.getD_eq_getElem?_getD,List.getElem?_eq_none (by rw [ndL_len];omega)] at hx
   cases hx]
theorem bare_right {D:Nat→Dm} {n:Nat} (hE:(allErr D n).2.2=0) (hf:∀ i,i<n→∀ k,k<(D i).n→((D i).mem k).formula.size=0):(ruErr D n).2.2=0:=ru_zero hE fun i hi=>bare_rule ((allErr_right hE).2 i hi) (hf i hi)
end Go.Proofs.YtfgegmpoejilnaaGreatDoor
namespace Go.Proofs.YtfgegmpoejilnaaGreatDoor
open Go Go.ChangeShapes Go.WideShapes Go.ChangeAt Go.RowKit Go.Deep
set_option maxRecDepth 100000
section
variable {H:Type} {enc:TypeId×Value→H} {w:World} {held:Bool}
def LowW (t:Nat) (d:DataW H):Prop := ∀ k∈d.weights Tryz.prog t,k≤reachBytes
theorem weights_all {P:Program} {e:TypeId} {n:Nat}:∀ {l:List (DataW H)} {d:DataW H},d∈l→n∈d.weights P e→n∈DataW.weightsAll P e l
 | x :: r,d,h,hn=>by
  rw [DataW.weightsAll,List.mem_append]
  rcases List.mem_cons.1 h with rfl | h
  ·exact Or.inl hn
  ·exact Or.inr (weights_all h hn)
theorem bytesM:Tryz.prog.bytesOf 27=48:=by kernel_rfl
theorem members_z {fuel:Nat} {A:Option Addr} {n cap:Nat} {x:DataW H×List MemPlace} (h:DataW.trod enc Tryz.prog w 0 (fun _=>true) held fuel 28 [.slice A n cap]=some x) (hz:LowW 28 x.1):n*48≤reachBytes:=by
 rcases open_slice Tryz.underlying28 h with ⟨h1,-⟩ | ⟨a,len,cap,m,k,D,Pl,h1,-,hl,-,hm,rfl,-⟩
 ·simp at h1
  rw [h1.2.1]
  exact Nat.zero_le _
 ·simp at h1
  have h2:=hz ((((List.range len).map D).length+((List.range (m-len)).map fun j=>D (len+j)).length)*Tryz.prog.bytesOf 27) (by simp [DataW.weights,Tryz.underlying28])
  rw [bytesM] at h2
  simp at h2
  rw [h1.2.1]
  omega
theorem dim_z {fuel:Nat} {d:Dm} {A:Option Addr} {c:Nat} {x:DataW H×List MemPlace} (h:DataW.trod enc Tryz.prog w 0 (fun _=>true) held fuel 30 [.string d.name,.int .i64 d.solve,.slice A d.n c]=some x) (hz:LowW 30 x.1):d.n*48≤reachBytes:=by
 obtain ⟨y0,y1,y2,n,rfl,-,-,-,h2⟩:=trod_struct3 Tryz.underlying30 h
 refine members_z (A:=A) (cap:=c) (x:=y2) (fuel:=n) h2 fun k hk=>hz k ?_
 simp only [DataW.weights,Tryz.underlying30]
 exact DataW.weights_mem_each (j:=2) rfl rfl k hk
theorem dims_z {fuel:Nat} {A0:Option Addr} {n cap:Nat} {D:Nat→Dm} {A:Nat→Option Addr} {C:Nat→Nat} {x:DataW H×List MemPlace} (h:DataW.trod enc Tryz.prog w 0 (fun _=>true) held fuel 22 [.slice A0 n cap]=some x) (hD:DimsV w A0 cap n D A C) (hz:LowW 22 x.1):∀ i,i<n→(D i).n*48≤reachBytes:=by
 intro i hi
 rcases open_slice Tryz.underlying22 h with ⟨h1,-⟩ | ⟨a,len,cap',m,k,E,Pl,h1,-,hl,-,hm,rfl,hx⟩
 ·simp at h1
  omega
 ·simp at h1
  obtain ⟨rfl,rfl,rfl⟩:=h1
  obtain ⟨cs',c1,c2⟩:=hx i (by simp at hm;omega)
  rw [cellsD] at c1
  obtain ⟨-,h0 | ⟨b,o,hb,hMs⟩⟩:=hD
  ·omega
  simp at hb
  subst hb
  obtain ⟨d0,d1,d2,-⟩:=hMs.2 i hi
  have hc:=(World.cells?_some c1)
  have e:cs'=[.string (D i).name,.int .i64 (D i).solve,.slice (A i) (D i).n (C i)]:=by
   have hl3:=hc.2.1
   have g:∀ j,j<3→w.cell? ⟨b,o+i*3+j,none⟩=cs'[j]?:=fun j hj=>by
    have:=hc.2.2 j hj
    rw [plain_add,plain_add] at this
    exact this
   match cs',hl3,g with
   | [v0,v1,v2],_,g =>
    have e0:=(g 0 (by omega)).symm.trans d0
    have e1:=(g 1 (by omega)).symm.trans d1
    have e2:=(g 2 (by omega)).symm.trans d2
    simp at e0 e1 e2
    rw [e0,e1,e2]
  rw [e] at c2
  refine dim_z c2 fun q hq=>hz q ?_
  simp only [DataW.weights,Tryz.underlying22]
  refine List.mem_cons_of_mem _ (List.mem_append.2 (Or.inl (weights_all (d:=E i) (List.mem_map.2 ⟨i,List.mem_range.2 hi,rfl⟩) hq)))
theorem outline_z {d:DataW H} {p:List MemPlace} {A0:Option Addr} {n cap:Nat} {D:Nat→Dm} {A:Nat→Option Addr} {C:Nat→Nat} (h:DataW.Trod enc Tryz.prog w 0 (fun _=>true) held 24 (.agg #[.slice A0 n cap]) d p) (hD:DimsV w A0 cap n D A C) (hz:LowW 24 d):∀ i,i<n→(D i).n*48≤reachBytes:=by
 obtain ⟨fuel,hf⟩:=h
 obtain ⟨xs,k,_,hx,hl,hlen,hfs⟩:=DataW.trod_struct Tryz.underlying24 hf
 match xs,hlen with
 | [y],_ =>
  have h0:=hfs 0 _ rfl
  have h1:DataW.trod enc Tryz.prog w 0 (fun _=>true) held k 22 [.slice A0 n cap]=some y:=h0
  have hd:d=.agg [y.1]:=by
   have:=congrArg Prod.fst hx
   exact this
  refine dims_z h1 hD fun q hq=>hz q ?_
  rw [hd]
  simp only [DataW.weights,Tryz.underlying24]
  exact DataW.weights_mem_each (j:=0) rfl rfl q hq
end
section
variable {H:Type} {enc:TypeId×Value→H} {w:World} {held:Bool}
theorem outline_cap {d:DataW H} {p:List MemPlace} {A0:Option Addr} {n cap:Nat} (h:DataW.Trod enc Tryz.prog w 0 (fun _=>true) held 24 (.agg #[.slice A0 n cap]) d p):n≤9223372036854775807:=by
 obtain ⟨fuel,hf⟩:=h
 obtain ⟨xs,k,_,hx,hl,hlen,hfs⟩:=DataW.trod_struct Tryz.underlying24 hf
 match xs,hlen with
 | [y],_ =>
  have h0:=hfs 0 _ rfl
  have h1:DataW.trod enc Tryz.prog w 0 (fun _=>true) held k 22 [.slice A0 n cap]=some y:=h0
  rcases open_slice Tryz.underlying22 h1 with ⟨e,-⟩ | ⟨a,len,cap',m,k,E,Pl,e,-,hl,hcm,-⟩
  ·simp at e
   omega
  ·simp at e
   obtain ⟨rfl,rfl,rfl⟩:=e
   unfold maxLen at hcm
   omega
end
end Go.Proofs.YtfgegmpoejilnaaGreatDoor
