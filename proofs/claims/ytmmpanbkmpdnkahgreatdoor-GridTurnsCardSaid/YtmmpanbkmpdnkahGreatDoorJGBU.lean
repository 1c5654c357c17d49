/-
  A place is told behind all that it needs, as package solve tells it (tell of a cube), in whatever memory: one step, and by induction all.
-/
import Derived.Test.YtmmpanbkmpdnkahGreatDoorJGBO
namespace Go.Proofs.YtmmpanbkmpdnkahGreatDoor
open Go.ChangeShapes Go.WideShapes Go.ChangeAt Go.RowKit
set_option maxRecDepth 20000
section
variable {wB:World} {qc qp g n gC cC gT:Nat} {D:Nat→Dm} {X:Nat→AL} {inp:List Int→Int×Int}
set_option maxHeartbeats 4000000 in
theorem ctell_told (hX:CtxA wB qc qp g n gC cC gT D X inp) (x:Nat) (f:Nat→Bool) (w:World) (hx:x<prodN D n) (hS:StC wB qc qp n gC cC gT D inp f w) (hf:f x=true) :
  Calls Tryz.prog 63 #[.pointer (some ⟨qc,0,none⟩),.int .i64 x] w fun e w'=>e=.returned .nilIface∧w'=w:=by
 obtain ⟨-,-,hp3,-⟩:=allErr_some hX.hE
 obtain ⟨l1,l2,l3,-⟩:=hS.lts
 obtain ⟨c0,c1,c2⟩:=hS.cells
 obtain ⟨-,-,L,-,-,hT,-⟩:=hS
 have ct:=hT.cell hx
 rw [hf] at ct
 generalize prodN D n=N at *
 have hNI:(N:Int)≤3000:=by omega
 have hxI:(x:Int)<(N:Int):=by omega
 clear hX hT hf
 go_enter Tryz.func63,Tryz.ntmps63
 go_wp2_with fail
 go_ret
 exact ⟨rfl,rfl⟩
set_option maxHeartbeats 16000000 in
theorem ctell_new (hX:CtxA wB qc qp g n gC cC gT D X inp) (x:Nat) (f:Nat→Bool) (w:World) (hx:x<prodN D n) (hS:StC wB qc qp n gC cC gT D inp f w) (hf:f x=false)
  (ih:∀ (y:Nat) (f1:Nat→Bool) (w1:World),y<prodN D n→msrTo D (placeL D n y) n<msrTo D (placeL D n x) n→StC wB qc qp n gC cC gT D inp f1 w1→Calls Tryz.prog 63 #[.pointer (some ⟨qc,0,none⟩),.int .i64 y] w1 fun e w2=>e=.returned .nilIface∧∃ f2,StC wB qc qp n gC cC gT D inp f2 w2∧(∀ j,f1 j=true→f2 j=true)∧f2 y=true∧FrC gC gT w1 w2) :
  Calls Tryz.prog 63 #[.pointer (some ⟨qc,0,none⟩),.int .i64 x] w fun e w'=>e=.returned .nilIface∧∃ f2,StC wB qc qp n gC cC gT D inp f2 w'∧(∀ j,f j=true→f2 j=true)∧f2 x=true∧FrC gC gT w w':=by
 obtain ⟨hn1,hn4,hp3,hd⟩:=allErr_some hX.hE
 obtain ⟨l1,l2,l3,-⟩:=hS.lts
 obtain ⟨c0,c1,c2⟩:=hS.cells
 have HX:Hid (CtxA wB qc qp g n gC cC gT D X inp):=hX
 have HS:Hid (StC wB qc qp n gC cC gT D inp f w):=hS
 have HIh:Hid (∀ (y:Nat) (f1:Nat→Bool) (w1:World),y<prodN D n→msrTo D (placeL D n y) n<msrTo D (placeL D n x) n→StC wB qc qp n gC cC gT D inp f1 w1→Calls Tryz.prog 63 #[.pointer (some ⟨qc,0,none⟩),.int .i64 y] w1 fun e w2=>e=.returned .nilIface∧∃ f2,StC wB qc qp n gC cC gT D inp f2 w2∧(∀ j,f1 j=true→f2 j=true)∧f2 y=true∧FrC gC gT w1 w2):=ih
 have hnd:=pneeds_any qp g n D X x w hX.hR hX.hE hx (hX.hA.later hS.1)
 obtain ⟨-,-,L0,-,-,hT0,-⟩:=id hS
 have ct:=hT0.cell hx
 rw [hf] at ct
 have HXx:Hid (x<prodN D n):=hx
 have hcc:=hX.hcc
 have hc63:=hX.hc63
 obtain ⟨N,hN⟩:∃ N,prodN D n=N:=⟨_,rfl⟩
 have HN:Hid (prodN D n=N):=hN
 rw [hN] at hx hp3 c1 c2 hcc
 have hNI:(N:Int)≤3000:=by omega
 have hxI:(x:Int)<(N:Int):=by omega
 have hcI:(N:Int)≤(cC:Int):=by omega
 clear hX hS hT0 hf ih hd hN
 go_enter Tryz.func63,Tryz.ntmps63
 go_wp2_with fail
 refine hnd.mono ?_
 rintro e w2 ⟨⟨A2,c2',T,rfl,hI2,hT2,hM2,-⟩,hb2⟩
 have HB2:Hid (Below w.heap.size w w2):=hb2
 have HI2:Hid (IntT w2 A2 c2' T):=hI2
 have HM2:Hid (∀ z,z∈T↔z∈ndsX D n x):=hM2
 have hl12:=hT2.2.1
 obtain ⟨M,hM⟩:∃ M,T.length=M:=⟨_,rfl⟩
 have HM:Hid (T.length=M):=hM
 rw [hM] at hl12 ⊢
 have hMI:(M:Int)≤12:=by omega
 have HS2:Hid (StC wB qc qp n gC cC gT D inp f w2):=HS.out.next HS.out hb2
 clear hb2 hI2 hT2 hM2 hM hnd c0 c1 c2 ct
 go_wp2_with fail
 go_loopg [32] M (fun gg s32 wr => ∃ (k:Nat) (fk:Nat→Bool),k≤M∧gg=M-k∧s32=.int .i64 k∧Hid (StC wB qc qp n gC cC gT D inp fk wr)∧Hid ((∀ j,f j=true→fk j=true)∧∀ i,i<k→fk (T.getD i 0).toNat=true)∧Hid (FrC gC gT w2 wr))
 case atStart=>exact ⟨0,f,Nat.zero_le _,rfl,rfl,HS2,hid_of ⟨fun j h=>h,fun i hi=>absurd hi (Nat.not_lt_zero _)⟩,FrC.refl _ _ _⟩
 case round =>
  obtain ⟨k,fk,hk,rfl,rfl,HSk,HFk,HFr⟩:=hrel
  by_cases hlt:k<M
  ·have hki:(k:Int)<(M:Int):=by omega
   have hkT:k<T.length:=by rw [HM.out];exact hlt
   obtain ⟨o1,o2⟩:=HS2.out.offI
   obtain ⟨hcS,-,hS0 | ⟨bs,cs,fr,rfl,hbS,hcl⟩⟩:=intT_frC HI2.out HFr.out o1 o2
   ·have:=HM.out;rw [hS0] at this;simp at this;omega
   have cx:=hcl k hkT
   have hbs:bs<wr.heap.size:=(Array.getElem?_eq_some_iff.1 hbS).1
   rw [HM.out] at hcS
   obtain ⟨y,hy,hyN,hym⟩:=nds_near HX.out HXx.out ((HM2.out _).1 (getD_memI hkT))
   rw [hy] at cx
   have hcall:=HIh.out y fk wr hyN hym HSk.out
   have HY:Hid (T.getD k 0=(y:Int)):=hy
   clear hcl hbS hy hym o1 o2 hyN
   go_wp2_with fail
   refine hcall.mono ?_
   rintro e w3 ⟨rfl,f2,hS3,hm3,hf3,hF3⟩
   have HS3:Hid (StC wB qc qp n gC cC gT D inp f2 w3):=hS3
   have HF3:Hid ((∀ j,f j=true→f2 j=true)∧∀ i,i<k+1→f2 (T.getD i 0).toNat=true):=by
    refine ⟨fun j h=>hm3 j (HFk.out.1 j h),fun i hi=>?_⟩
    by_cases e:i=k
    ·rw [e,HY.out,Int.toNat_natCast];exact hf3
    ·exact hm3 _ (HFk.out.2 i (by omega))
   have HFr3:Hid (FrC gC gT w2 w3):=HFr.out.trans hF3
   clear hcall hS3 hm3 hf3 hF3 cx
   go_wp2_with fail
   go_roundg (M-(k+1))
   case measure=>omega
   case rel=>exact ⟨k+1,f2,by omega,rfl,by go_num,HS3,HF3,HFr3⟩
  ·have hke:k=M:=by omega
   subst hke
   obtain ⟨c0,c1,c2⟩:=HSk.out.cells
   obtain ⟨m1,m2,m3,-⟩:=HSk.out.lts
   have HTd:Hid (∀ z∈ndsX D n x,fk z.toNat=true):=fun z hz=>by
    have hz2:=(HM2.out z).2 hz
    obtain ⟨i,hi,e⟩:=List.getElem_of_mem hz2
    have h:=HFk.out.2 i (by rw [HM.out] at hi;exact hi)
    rw [List.getD_eq_getElem?_getD,List.getElem?_eq_getElem hi,Option.getD_some,e] at h
    exact h
   have HTl:Hid (∀ w',Below wr.heap.size wr w'→Calls Tryz.prog 86 #[.pointer (some ⟨qp,0,none⟩),.slice (some ⟨gC,0,none⟩) N cC,.int .i64 x] w' fun e w''=>e=.returned (.tuple #[.agg #[.int .i64 (solV D n inp (placeL D n x)).1,.int .i64 (solV D n inp (placeL D n x)).2],.nilIface])∧Below w'.heap.size w' w''):=fun w' hB=>by
    have hS':=HSk.out.next HSk.out hB
    obtain ⟨hBb,-,L,hCL,hLl,-,hIn⟩:=hS'
    have hXx:=HX.out
    have hnear:∀ z∈ndsX D n x,L.getD z.toNat noC=solV D n inp (placeL D n z.toNat):=fun z hz=>by
     obtain ⟨y,rfl,hy,-⟩:=nds_near hXx HXx.out hz
     have:=HTd.out _ hz
     rw [Int.toNat_natCast] at this ⊢
     exact (hIn y hy).1 this
    have hlf:byTo D (placeL D n x) n<0→L.getD x noC=inp (placeL D n x):=fun h=>by
     cases hfx:fk x with
     | true=>rw [(hIn x HXx.out).1 hfx,sol_leaf inp h]
     | false=>exact (hIn x HXx.out).2 hfx
    have h:=ptell_any qp g n D X x (some ⟨gC,0,none⟩) cC L w' hXx.hR hXx.hE HXx.out (hXx.hA.later hBb) hLl ⟨by rw [hLl];exact hXx.hcc,by have:=hXx.hc63;omega,Or.inr ⟨gC,0,rfl,hCL.celAt⟩⟩ (fun z hz=>by
     rw [hnear z hz]
     exact good_sol hXx.hR hXx.hg _ _ (placeL_in hXx.hE) (Nat.lt_succ_self _))
    rw [tl_sol hXx.hR hXx.hE HXx.out hlf hnear,HN.out] at h
    exact h
   obtain ⟨⟨ra,rb⟩,hRe⟩:∃ R,solV D n inp (placeL D n x)=R:=⟨_,rfl⟩
   have HRe:Hid (solV D n inp (placeL D n x)=(ra,rb)):=hRe
   rw [hRe] at HTl
   simp only at HTl
   rw [HN.out] at c1 c2
   have HKp:Hid (∀ w',Below wr.heap.size wr w'→Below wr.heap.size wr w'∧w'.cell? ⟨qc,0,none⟩=some (.pointer (some ⟨qp,0,none⟩))∧w'.cell? ⟨qc,1,none⟩=some (.slice (some ⟨gC,0,none⟩) N cC)):=fun w' h=>⟨h,(h.cell (p:=⟨qc,0,none⟩) m1).trans c0,(h.cell (p:=⟨qc,1,none⟩) m1).trans c1⟩
   clear hRe
   go_upto_region 13 with fail
   go_cut [6,10] from 11 (fun s6 s10 wx=>s6=.nilIface∧∃ q,s10=.pointer (some ⟨q,0,none⟩)∧At q ra rb wx∧wr.heap.size≤q∧Below wr.heap.size wr wx)
   case first =>
    go_region_held3 (fun w'=>Below wr.heap.size wr w'∧w'.cell? ⟨qc,0,none⟩=some (.pointer (some ⟨qp,0,none⟩))∧w'.cell? ⟨qc,1,none⟩=some (.slice (some ⟨gC,0,none⟩) N cC))
     ((refine HKp.out _ ?_;go_grown;done))
     ((go_at_call 86;refine (HTl.out _ (by go_grown)).mono ?_;rintro e w7 ⟨rfl,hb7⟩;have hN7:=onB (W0:=wr) (by go_grown) hb7;have hy7:=hN7.size;obtain ⟨hc7,hf7⟩:=bcell hb7;have hz7:=bsize hb7;(try simp [Nat.add_one_le_iff] at hz7);(try have ha7:wr.heap.size<w7.heap.size:=by omega);clear hb7))
    all_goals go_wp2_with fail
    all_goals go_meet
    all_goals
     refine ⟨rfl,_,rfl,?_,by (first | omega | (simp;omega) | simp),by go_grown⟩
     first
      | exact At.new _ _ _ _
      | (refine At.set (u:=.int .i64 0) (v:=.int .i64 0) (by omega) ?_ ?_ <;> (rw [hc7 _ _ (by simp)];simp;done))
      | (refine At.set (u:=.int .i64 0) (v:=.int .i64 0) (by omega) ?_ ?_ <;> (rw [hc7 _ _ (by omega)];simp;done))
   case rest =>
   obtain ⟨rfl,q,rfl,⟨hql,p0,p1⟩,hqw,hBc⟩:=hcut
   obtain ⟨w9,rfl⟩:∃ w9:World,w9=wc:=⟨_,rfl⟩
   have hS9:=HSk.out.next HSk.out hBc
   have HS9:Hid (StC wB qc qp n gC cC gT D inp fk w9):=hS9
   obtain ⟨d0,d1,d2⟩:=hS9.cells
   rw [HN.out] at d1 d2
   obtain ⟨j1,j2,j3,-⟩:=hS9.lts
   obtain ⟨n1,n2,n3⟩:=hS9.ne
   have HFr9:Hid (FrC gC gT w w9):=(frC_below HB2.out).trans (HFr.out.trans (frC_below hBc))
   obtain ⟨-,-,Lx,hCx,hLx,hTx,-⟩:=hS9
   rw [HN.out] at hLx hTx
   obtain ⟨r0,r1⟩:=hCx.at (k:=x) (by omega)
   have r2:=hTx.cell hx
   have f0:=hCx.frozen (x*2)
   have f1:=hCx.frozen (x*2+1)
   have f2:=hTx.frozen x
   have HFin:Hid (StC wB qc qp n gC cC gT D inp (fun j=>if j=x then true else fk j) (((w9.setCell ⟨gC,x*2,none⟩ (.int .i64 ra)).setCell ⟨gC,x*2+1,none⟩ (.int .i64 rb)).setCell ⟨gT,x,none⟩ (.bool true))∧FrC gC gT w (((w9.setCell ⟨gC,x*2,none⟩ (.int .i64 ra)).setCell ⟨gC,x*2+1,none⟩ (.int .i64 rb)).setCell ⟨gT,x,none⟩ (.bool true))):=⟨HS9.out.put HXx.out HRe.out HX.out.hC HX.out.hT,frC_put HFr9.out⟩
   have HMo:Hid (∀ j,f j=true→(if j=x then true else fk j)=true):=by
    intro j h
    by_cases e:j=x
    ·rw [if_pos e]
    ·rw [if_neg e];exact HFk.out.1 j h
   have hqC:gC<q:=by omega
   have hqT:gT<q:=by omega
   clear hCx hLx hTx hBc c0 c1 c2 d0
   go_wp2_with fail
   go_region
   all_goals go_wp2_with fail
   all_goals go_ret
   all_goals exact ⟨rfl,_,HFin.out.1.drew,HMo.out,if_pos rfl,frC_drew HFin.out.2⟩
theorem ctell_all (hX:CtxA wB qc qp g n gC cC gT D X inp):∀ (F x:Nat) (f:Nat→Bool) (w:World),x<prodN D n→msrTo D (placeL D n x) n<F→StC wB qc qp n gC cC gT D inp f w→Calls Tryz.prog 63 #[.pointer (some ⟨qc,0,none⟩),.int .i64 x] w fun e w2=>e=.returned .nilIface∧∃ f2,StC wB qc qp n gC cC gT D inp f2 w2∧(∀ j,f j=true→f2 j=true)∧f2 x=true∧FrC gC gT w w2:=by
 intro F
 induction F with
 | zero=>intro x f w _ h;omega
 | succ F ihF =>
  intro x f w hx hF hS
  cases hf:f x with
  | true =>
   refine (ctell_told hX x f w hx hS hf).mono ?_
   rintro e w2 ⟨rfl,rfl⟩
   exact ⟨rfl,f,hS,fun j h=>h,hf,FrC.refl _ _ _⟩
  | false=>exact ctell_new hX x f w hx hS hf fun y f1 w1 hy hm h=>ihF y f1 w1 hy (by omega) h
end
noncomputable def soErr (D:Nat→Dm) (n:Nat) (l:List En) (p:List Int):Int:=if cuErr D n l≠0 then cuErr D n l else placeErr D n p
noncomputable def soV (D:Nat→Dm) (n:Nat) (l:List En) (p:List Int):Int×Int:=if soErr D n l p=0 then solV D n (getE l) p else (0,0)
set_option maxHeartbeats 8000000 in
theorem pvalue_any (A0:Option Addr) (cap n:Nat) (D:Nat→Dm) (A:Nat→Option Addr) (C:Nat→Nat) (AE:Option Addr) (ce:Nat) (xs:List EnL) (Ap:Option Addr) (cp:Nat) (p:List Int) (w:World) (hM:DimsV w A0 cap n D A C) (hEn:EnsV w AE ce xs) (hP:PlAt w Ap cp p) :
  Calls Tryz.prog 27 #[.agg #[.slice A0 n cap],.slice AE xs.length ce,.slice Ap p.length cp] w fun e w'=>e=.returned (.tuple #[.agg #[.int .i64 (soV D n (lE xs) p).1,.int .i64 (soV D n (lE xs) p).2],errV (soErr D n (lE xs) p)])∧Below w.heap.size w w':=by
 have hB0:=ownOC_below w A0 n cap
 have hS:=ownOC_size w A0 n cap
 have hA:=ownOC_o w A0 n cap
 have hk1:=ownOC_b w A0 n cap
 obtain ⟨W,hW⟩:∃ W,ownOC w A0 n cap=W:=⟨_,rfl⟩
 rw [hW] at hB0 hS hA hk1
 unfold ownOC ownOut at hW
 have HB0:Hid (Below w.heap.size w W):=hB0
 have hsz:w.heap.size<W.heap.size:=by omega
 have hsz1:w.heap.size+1<W.heap.size:=by omega
 have HA:Hid (W.cell? ⟨w.heap.size,0,none⟩=some (.slice A0 n cap)):=hA
 have HK:Hid (W.heap[w.heap.size+1]?=some (.cells #[.int .i64 0,.int .i64 0] 40 (0,0))):=hk1
 have HNum:Hid (∀ w',Below w.heap.size w w'→Calls Tryz.prog 28 #[.agg #[.slice A0 n cap],.slice Ap p.length cp] w' fun e w''=>e=.returned (.tuple #[.int .i64 (numV D n p),errV (placeErr D n p)])∧Below w'.heap.size w' w''):=fun w' hB=>pnumber_any A0 cap n D A C Ap cp p w' (hM.later hB) (hP.later hB)
 by_cases hr:(ruErr D n).2.2=0
 case neg =>
  have hl:=new_bad A0 cap n D A C W hr (hM.later hB0)
  have HE:Hid (soErr D n (lE xs) p=(ruErr D n).2.2∧soV D n (lE xs) p=(0,0)):=by
   have e1:cuErr D n (lE xs)=(ruErr D n).2.2:=by unfold cuErr;rw [if_pos hr]
   have e:soErr D n (lE xs) p=(ruErr D n).2.2:=by unfold soErr;rw [e1,if_pos hr]
   exact ⟨e,by unfold soV;rw [e,if_neg hr]⟩
  have HEr:Hid (errV (ruErr D n).2.2=.iface 104 (.int .i64 (ruErr D n).2.2)):=errV_some hr
  rw [errV_some hr] at hl
  generalize p.length=pl at HNum ⊢
  generalize xs.length=xl
  clear hM hP hB0 hr hS hEn hk1
  generalize (ruErr D n).2.2=z at hl HE HEr
  go_enter Tryz.func27,Tryz.ntmps27
  go_wp2_with fail
  refine hl.mono ?_
  rintro e w1 ⟨rfl,hb1⟩
  have HB1:Hid (Below w.heap.size w w1):=onB HB0.out hb1
  obtain ⟨e0,e1,g0,g1⟩:=pair_at ((hb1.block (w.heap.size+1) hsz1).trans HK.out)
  have hs1:w.heap.size+1<w1.heap.size:=Nat.lt_of_lt_of_le hsz1 hb1.size
  clear hb1 hl hA hW
  go_wp2_with fail
  refine bodyPost_ret (v:=.tuple #[.agg #[.int .i64 0,.int .i64 0],.iface 104 (.int .i64 z)]) (by simp [results,Tryz.results27,go_sem,e0,e1]) rfl ⟨by rw [HE.out.1,HE.out.2,HEr.out],?_⟩
  exact (HB1.out.setCell (by simp) _).setCell (by simp) _
 obtain ⟨hE,hR⟩:=ru_right hr
 have hl:=new_any A0 cap n D A C W hE hR (hM.later hB0)
 have hce:cuErr D n (lE xs)=entsErr D n (lE xs):=by unfold cuErr;rw [if_neg (by simpa using hr)]
 by_cases he:entsErr D n (lE xs)=0
 case neg =>
  have HE:Hid (soErr D n (lE xs) p=entsErr D n (lE xs)∧soV D n (lE xs) p=(0,0)):=by
   have e:soErr D n (lE xs) p=entsErr D n (lE xs):=by unfold soErr;rw [hce,if_pos he]
   exact ⟨e,by unfold soV;rw [e,if_neg he]⟩
  have HEr:Hid (errV (entsErr D n (lE xs))=.iface 104 (.int .i64 (entsErr D n (lE xs)))):=errV_some he
  have HCe:Hid (∀ w',Below w.heap.size w w'→Calls Tryz.prog 62 #[.agg #[.slice A0 n cap],.slice AE xs.length ce] w' fun e w''=>(∃ A' c',e=.returned (.tuple #[.slice A' 0 c',.iface 104 (.int .i64 (entsErr D n (lE xs)))]))∧Below w'.heap.size w' w''):=fun w' hB=>by
   have h:=fcells_any A0 cap n D A C AE ce xs w' (hM.later hB) (hEn.later hB)
   rw [fc_bad he,errV_some he] at h
   refine h.mono ?_
   rintro e w'' ⟨⟨A',c',rfl,-⟩,hb⟩
   exact ⟨⟨A',c',rfl⟩,hb⟩
  generalize p.length=pl at HNum ⊢
  generalize xs.length=xl at HCe ⊢
  generalize entsErr D n (lE xs)=z at HE HEr HCe
  clear hM hP hB0 hr hS hEn hk1 hE hR he hce
  go_enter Tryz.func27,Tryz.ntmps27
  go_wp2_with fail
  refine hl.mono ?_
  rintro e w1 ⟨⟨qp,g,X,rfl,-,-,-⟩,hb1⟩
  have HB1:Hid (Below W.heap.size W w1):=hb1
  have c1:=(hb1.cell (p:=⟨w.heap.size,0,none⟩) hsz).trans HA.out
  have hs1:w.heap.size<w1.heap.size:=Nat.lt_of_lt_of_le hsz hb1.size
  clear hb1 hl hA hW
  go_wp2_with fail
  refine (HCe.out w1 (onB HB0.out HB1.out)).mono ?_
  rintro e w2 ⟨⟨A2,c2,rfl⟩,hb2⟩
  have HB2:Hid (Below w.heap.size w w2):=onB (onB HB0.out HB1.out) hb2
  obtain ⟨e0,e1,g0,g1⟩:=pair_at (((onB HB1.out hb2).block (w.heap.size+1) hsz1).trans HK.out)
  have hs2:w.heap.size+1<w2.heap.size:=Nat.lt_of_lt_of_le hsz1 (onB HB1.out hb2).size
  clear hb2 c1
  go_wp2_with fail
  refine bodyPost_ret (v:=.tuple #[.agg #[.int .i64 0,.int .i64 0],.iface 104 (.int .i64 z)]) (by simp [results,Tryz.results27,go_sem,e0,e1]) rfl ⟨by rw [HE.out.1,HE.out.2,HEr.out],?_⟩
  exact (HB2.out.setCell (by simp) _).setCell (by simp) _
 have hEs:=ens_of he
 have HCe:Hid (∀ w',Below w.heap.size w w'→Calls Tryz.prog 62 #[.agg #[.slice A0 n cap],.slice AE xs.length ce] w' fun e w''=>(∃ g,e=.returned (.tuple #[.slice (some ⟨g,0,none⟩) (prodN D n) (prodN D n),.nilIface])∧w'.heap.size≤g∧CelB w'' g (wrV D n (lE xs)))∧Below w'.heap.size w' w''):=fun w' hB=>fcells_own A0 cap n D A C AE ce xs w' (hM.later hB) (hEn.later hB) he
 have HSE:Hid (soErr D n (lE xs) p=placeErr D n p):=by show _=_;unfold soErr;rw [hce,if_neg (by simpa using he)]
 obtain ⟨N,hN⟩:∃ N,prodN D n=N:=⟨_,rfl⟩
 have HN:Hid (prodN D n=N):=hN
 obtain ⟨-,-,hp3,-⟩:=allErr_some hE
 rw [hN] at HCe hp3
 have hNI:(N:Int)≤3000:=by omega
 by_cases hp:placeErr D n p=0
 case neg =>
  have HE:Hid (soV D n (lE xs) p=(0,0)):=by show _=_;unfold soV;rw [HSE.out,if_neg hp]
  have HEr:Hid (errV (placeErr D n p)=.iface 104 (.int .i64 (placeErr D n p))):=errV_some hp
  rw [errV_some hp] at HNum
  generalize p.length=pl at HNum ⊢
  generalize xs.length=xl at HCe ⊢
  generalize placeErr D n p=z at HNum HSE HEr
  generalize numV D n p=nv at HNum
  clear hM hP hB0 hr hS hEn hk1 hE hR he hce hp hEs hN
  go_enter Tryz.func27,Tryz.ntmps27
  go_wp2_with fail
  refine hl.mono ?_
  rintro e w1 ⟨⟨qp,g,X,rfl,-,-,-⟩,hb1⟩
  have HB1:Hid (Below W.heap.size W w1):=hb1
  have c1:=(hb1.cell (p:=⟨w.heap.size,0,none⟩) hsz).trans HA.out
  have hs1:w.heap.size<w1.heap.size:=Nat.lt_of_lt_of_le hsz hb1.size
  clear hb1 hl hA hW
  go_wp2_with fail
  refine (HCe.out w1 (onB HB0.out HB1.out)).mono ?_
  rintro e w2 ⟨⟨gC,rfl,-,-⟩,hb2⟩
  have HB2:Hid (Below W.heap.size W w2):=onB HB1.out hb2
  have c2:=(hb2.cell (p:=⟨w.heap.size,0,none⟩) hs1).trans c1
  have hs2:w.heap.size<w2.heap.size:=Nat.lt_of_lt_of_le hs1 hb2.size
  clear hb2 c1
  go_wp2_with fail
  refine (HNum.out w2 (onB HB0.out HB2.out)).mono ?_
  rintro e w3 ⟨rfl,hb3⟩
  have HB3:Hid (Below w.heap.size w w3):=onB (onB HB0.out HB2.out) hb3
  obtain ⟨e0,e1,g0,g1⟩:=pair_at (((onB HB2.out hb3).block (w.heap.size+1) hsz1).trans HK.out)
  have hs3:w.heap.size+1<w3.heap.size:=Nat.lt_of_lt_of_le hsz1 (onB HB2.out hb3).size
  clear hb3 c2
  go_wp2_with fail
  refine bodyPost_ret (v:=.tuple #[.agg #[.int .i64 0,.int .i64 0],.iface 104 (.int .i64 z)]) (by simp [results,Tryz.results27,go_sem,e0,e1]) rfl ⟨by rw [HE.out,HSE.out,HEr.out],?_⟩
  exact (HB3.out.setCell (by simp) _).setCell (by simp) _
 obtain ⟨x,hx1,hx2,hx3⟩:=num_lt (inO_of hp)
 have hnv:numV D n p=(x:Int):=by unfold numV;rw [if_pos hp,hx1]
 have HE:Hid (soErr D n (lE xs) p=0∧soV D n (lE xs) p=solV D n (getE (lE xs)) p):=⟨by rw [HSE.out,hp],by unfold soV;rw [HSE.out,if_pos hp]⟩
 rw [hp,hnv,errV_zero] at HNum
 have HAt:Hid (∀ wB qc qp g gC gT X f w',CtxA wB qc qp g n gC N gT D X (getE (lE xs))→StC wB qc qp n gC N gT D (getE (lE xs)) f w'→Calls Tryz.prog 63 #[.pointer (some ⟨qc,0,none⟩),.int .i64 x] w' fun e w2=>e=.returned .nilIface∧(Below wB.heap.size wB w2∧w2.cell? ⟨qc,1,none⟩=some (.slice (some ⟨gC,0,none⟩) N N)∧w2.cell? ⟨gC,x*2,none⟩=some (.int .i64 (solV D n (getE (lE xs)) p).1)∧w2.cell? ⟨gC,x*2+1,none⟩=some (.int .i64 (solV D n (getE (lE xs)) p).2)∧qc<w2.heap.size∧gC<w2.heap.size)):=fun wB qc qp g gC gT X f w' hX hSt=>by
  refine (ctell_all hX _ x f w' hx2 (Nat.lt_succ_self _) hSt).mono ?_
  rintro e w2 ⟨rfl,f2,hS2,-,hf2,-⟩
  obtain ⟨-,c1,-⟩:=hS2.cells
  obtain ⟨l1,l2,-,-⟩:=hS2.lts
  obtain ⟨hBB,-,L,hCL,hLl,-,hIn⟩:=hS2
  obtain ⟨k0,k1⟩:=hCL.at (k:=x) (by omega)
  rw [(hIn x hx2).1 hf2,hx3] at k0 k1
  rw [hN] at c1
  exact ⟨rfl,hBB,c1,k0,k1,l1,l2⟩
 have HCtx:Hid (∀ wB qc qp g gC gT X,PlanV wB qp g n D X→wB.heap.size≤qc→wB.heap.size≤gC→wB.heap.size≤gT→CtxA wB qc qp g n gC N gT D X (getE (lE xs))):=fun wB qc qp g gC gT X h1 h2 h3 h4=>⟨hE,hR,h1,good_getE hEs,h2,h3,h4,by rw [hN];exact Nat.le_refl _,hp3⟩
 have HWr:Hid (∀ j,j<N→(wrV D n (lE xs)).getD j noC=getE (lE xs) (placeL D n j)):=fun j hj=>wr_at hEs (by rw [hN];exact hj)
 have hmk:=run_make_bols N hp3
 generalize p.length=pl at HNum ⊢
 generalize xs.length=xl at HCe ⊢
 obtain ⟨⟨ra,rb⟩,hR2⟩:∃ R,solV D n (getE (lE xs)) p=R:=⟨_,rfl⟩
 rw [hR2] at HE HAt
 simp only at HAt
 have hxI:(x:Int)<(N:Int):=by omega
 clear hM hP hB0 hr hS hEn hk1 hE hR he hce hp hEs hN hnv hx1 hx2 hx3 hR2
 go_enter Tryz.func27,Tryz.ntmps27
 go_wp2_with fail
 refine hl.mono ?_
 rintro e w1 ⟨⟨qp,g,X,rfl,-,-,hAx⟩,hb1⟩
 have HAx:Hid (PlanV w1 qp g n D X):=hAx
 have HB1:Hid (Below W.heap.size W w1):=hb1
 have c1:=(hb1.cell (p:=⟨w.heap.size,0,none⟩) hsz).trans HA.out
 have hs1:w.heap.size<w1.heap.size:=Nat.lt_of_lt_of_le hsz hb1.size
 clear hb1 hl hA hW hAx
 go_wp2_with fail
 refine (HCe.out w1 (onB HB0.out HB1.out)).mono ?_
 rintro e w2 ⟨⟨gC,rfl,hgC,hCb⟩,hb2⟩
 have HB2:Hid (Below w1.heap.size w1 w2):=hb2
 have HCb:Hid (CelB w2 gC (wrV D n (lE xs))):=hCb
 have c2:=(hb2.cell (p:=⟨w.heap.size,0,none⟩) hs1).trans c1
 have hs2:w.heap.size<w2.heap.size:=Nat.lt_of_lt_of_le hs1 hb2.size
 clear hb2 c1 hCb
 go_wp2_with fail
 refine (HNum.out w2 (onB HB0.out (onB HB1.out HB2.out))).mono ?_
 rintro e w3 ⟨rfl,hb3⟩
 have HB3:Hid (Below w1.heap.size w1 w3):=onB HB2.out hb3
 have HC3:Hid (CelB w3 gC (wrV D n (lE xs))):=HCb.out.later hb3
 obtain ⟨y,hy⟩:∃ y,w3.alloc (.cells (madeCells #[.bool false] N) 4)=y:=⟨_,rfl⟩
 have hBy:Below w3.heap.size w3 y:=by rw [←hy];go_grown
 have HTb:Hid (BolB y w3.heap.size N fun _=>false):=by rw [←hy];exact BolB.made w3 N
 obtain ⟨z,hz⟩:∃ z,y.alloc (.cells #[.pointer (some ⟨qp,0,none⟩),.slice (some ⟨gC,0,none⟩) N N,.slice (some ⟨w3.heap.size,0,none⟩) N N] 123)=z:=⟨_,rfl⟩
 have hBz:Below y.heap.size y z:=by rw [←hz];go_grown
 have hqz:z.heap[y.heap.size]?=some (.cells #[.pointer (some ⟨qp,0,none⟩),.slice (some ⟨gC,0,none⟩) N N,.slice (some ⟨w3.heap.size,0,none⟩) N N] 123 (0,0)):=by rw [←hz];exact heap_alloc_new ..
 have hysz:y.heap.size=w3.heap.size+1:=by rw [←hy];simp
 have HYs:Hid (y.heap.size=w3.heap.size+1):=hysz
 have hs13:=HB3.out.size
 have HSt:Hid (StC w1 y.heap.size qp n gC N w3.heap.size D (getE (lE xs)) (fun _=>false) z):=by
  refine ⟨onB HB3.out (onB hBy hBz),by rw [HN.out];exact hqz,wrV D n (lE xs),HC3.out.later (onB hBy hBz),wrV_len ..,by rw [HN.out];exact HTb.out.later hBz,fun j hj=>⟨fun h=>(by cases h),fun _=>HWr.out j (by rw [←HN.out];exact hj)⟩⟩
 have hat:=HAt.out w1 y.heap.size qp g gC w3.heap.size X _ z (HCtx.out w1 y.heap.size qp g gC w3.heap.size X HAx.out (by omega) hgC (by omega)) HSt.out
 have HBz:Hid (Below w1.heap.size w1 z):=onB HB3.out (onB hBy hBz)
 clear hb3 c2 hBy hBz hqz HAt HCtx HWr hysz
 go_wp2_with fail
 refine hat.mono ?_
 rintro e w5 ⟨rfl,hlow,k1,k2,k3,kq,kC⟩
 have HB5:Hid (Below W.heap.size W w5):=onB HB1.out hlow
 obtain ⟨e0,e1,g0,g1⟩:=pair_at ((HB5.out.block (w.heap.size+1) hsz1).trans HK.out)
 have hs5:w.heap.size+1<w5.heap.size:=Nat.lt_of_lt_of_le hsz1 HB5.out.size
 clear hlow hat hy hz hmk
 go_wp2_with fail
 refine bodyPost_ret (v:=.tuple #[.agg #[.int .i64 ra,.int .i64 rb],.nilIface]) (by simp [results,Tryz.results27,go_sem,e0,e1]) rfl ⟨by rw [HE.out.1,HE.out.2];rfl,?_⟩
 exact ((onB HB0.out HB5.out).setCell (by simp) _).setCell (by simp) _
end Go.Proofs.YtmmpanbkmpdnkahGreatDoor
