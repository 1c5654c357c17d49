/-
  What Make of package grid answers, in whatever memory.
-/
import Derived.Test.YtmmpanbkmpdnkahGreatDoorJGBU
import Derived.Test.YtmmpanbkmpdnkahGreatDoorJGBV
namespace Go.Proofs.YtmmpanbkmpdnkahGreatDoor
open Go.ChangeShapes Go.WideShapes Go.ChangeAt Go.RowKit
set_option maxRecDepth 20000
section
variable {D:Nat→Dm} {n:Nat} {l:List En} {p:List Int} {row col:Int}
theorem mkE_right (h:mkE D n l p row col=0):cuErr D n l=0∧placeErr D n p=0∧∃ i k:Nat,row=i∧col=k∧i<n∧k<n∧i≠k:=by
 by_cases h1:cuErr D n l=0
 ·by_cases h2:placeErr D n p=0
  ·cases h3:outI n row with
   | true=>rw [mkE_out h1 h2 (Or.inl h3)] at h;omega
   | false =>
    cases h4:outI n col with
    | true=>rw [mkE_out h1 h2 (Or.inr h4)] at h;omega
    | false =>
     rw [mkE_in h1 h2 h3 h4] at h
     obtain ⟨i,rfl,hi⟩:=outI_in h3
     obtain ⟨k,rfl,hk⟩:=outI_in h4
     refine ⟨h1,h2,i,k,rfl,rfl,hi,hk,fun e=>?_⟩
     subst e
     simp at h
  ·rw [mkE_pl h1 h2] at h;exact absurd h h2
 ·rw [mkE_cu h1] at h;exact absurd h h1
end
theorem turn1_in (args:Array Value) (w:World):(callFunc 77 args).run Tryz.prog w=.ok (.enter 77 args) w:=by simp [callFunc,Tryz.func77];rfl
set_option maxHeartbeats 4000000 in
theorem turn1_any (q:Nat) (Ag:Option Addr) (cg:Nat) (zz:List CsL) (r c:Nat) (w:World) (hc:c<zz.length) (hr:r<(zz.getD c noCs).L.length) (h2:w.cell? ⟨q,2,none⟩=some (.slice Ag zz.length cg)) (hZ:CssV w Ag cg zz) :
  Calls Tryz.prog 77 #[.int .i64 r,.int .i64 c,.pointer (some ⟨q,0,none⟩)] w fun e w'=>e=.returned (.tuple #[.agg #[.int .i64 (((zz.getD c noCs).L.getD r noC).1),.int .i64 (((zz.getD c noCs).L.getD r noC).2)],.nilIface])∧Below w.heap.size w w':=by
 obtain ⟨hcg,-,h0 | ⟨b,o,rfl,hbl,hcl⟩⟩:=hZ
 ·rw [h0] at hc;simp at hc
 obtain ⟨e1,hv1,hv2,h0 | ⟨b2,o2,hA,hAt⟩⟩:=hcl c hc
 ·rw [h0] at hr;simp at hr
 obtain ⟨x0,x1⟩:=hAt.2 r hr
 have hb2:=hAt.1
 rw [hA] at e1
 have hq:=World.block_lt_of_cell? _ _ h2
 simp only at hq
 have hci:(c:Int)<(zz.length:Int):=by omega
 have hri:(r:Int)<((zz.getD c noCs).L.length:Int):=by omega
 generalize ((zz.getD c noCs).L.getD r noC).1=va at x0
 generalize ((zz.getD c noCs).L.getD r noC).2=vb at x1
 generalize (zz.getD c noCs).L.length=m at e1 hri hr hv1
 generalize (zz.getD c noCs).c=cm at e1 hv1 hv2
 generalize zz.length=N at h2 hci hc hcg
 obtain ⟨y,hy⟩:∃ y,w.alloc (.cells #[.int .i64 0,.int .i64 0] 40)=y:=⟨_,rfl⟩
 have hBy:Below w.heap.size w y:=by rw [←hy];go_grown
 have hyb:y.heap[w.heap.size]?=some (.cells #[.int .i64 0,.int .i64 0] 40 (0,0)):=by rw [←hy];exact heap_alloc_new ..
 have y2:=(hBy.cell (p:=⟨q,2,none⟩) hq).trans h2
 have ye:=(hBy.cell (p:=⟨b,o+c,none⟩) hbl).trans e1
 have yx:=(hBy.cell (p:=⟨b2,o2+r*2,none⟩) hb2).trans x0
 have yz:=(hBy.cell (p:=⟨b2,o2+r*2+1,none⟩) hb2).trans x1
 have hys:w.heap.size<y.heap.size:=(Array.getElem?_eq_some_iff.1 hyb).1
 obtain ⟨s0,s1,g0,g1⟩:=pair_at hyb
 obtain ⟨t0,t1,-,-⟩:=pair_at (pair_set (a:=.int .i64 va) (b:=.int .i64 vb) hyb)
 have HB:Hid (Below w.heap.size w ((y.setCell ⟨w.heap.size,0,none⟩ (.int .i64 va)).setCell ⟨w.heap.size,1,none⟩ (.int .i64 vb))):=(hBy.setCell (Nat.le_refl _) _).setCell (Nat.le_refl _) _
 obtain ⟨U,hU⟩:∃ U,(y.setCell ⟨w.heap.size,0,none⟩ (.int .i64 va)).setCell ⟨w.heap.size,1,none⟩ (.int .i64 vb)=U:=⟨_,rfl⟩
 rw [hU] at t0 t1 HB
 have hNg:(N:Int)≤(cg:Int):=by omega
 have hmc:(m:Int)≤(cm:Int):=by omega
 clear hBy hyb hAt hcl hA h2 e1 x0 x1
 go_enter Tryz.func77,Tryz.ntmps77
 go_wp2_with fail
 exact bodyPost_ret (v:=.tuple #[.agg #[.int .i64 va,.int .i64 vb],.nilIface]) (by simp [results,Tryz.results77,go_sem,t0,t1]) rfl ⟨rfl,HB.out⟩
def tuL (E:Int) (L:List Int):List Int:=if E=0 then L else []
def tuZ (E:Int) (Z:List (List (Int×Int))) (r c:Nat):List (List (Int×Int)):=if E=0 then trZ Z r c else []
def tuW (w:World) (u v z:Value):World:=(ownG w u v z).alloc (.cells #[.slice none 0 0,.slice none 0 0,.slice none 0 0] 75)
theorem tuW_at (w:World) (u v z:Value):(tuW w u v z).heap[w.heap.size]?=some (.cells #[u,v,z] 75 (0,0))∧(tuW w u v z).heap[w.heap.size+1]?=some (.cells #[.slice none 0 0,.slice none 0 0,.slice none 0 0] 75 (0,0)):=by
 have h1:=ownG_at w u v z
 have hs:(ownG w u v z).heap.size=w.heap.size+1:=by simp [ownG]
 refine ⟨(Below.heap_alloc _ _ _ (by omega)).trans h1,?_⟩
 rw [←hs]
 exact heap_alloc_new ..
theorem tuW_below (w:World) (u v z:Value):Below w.heap.size w (tuW w u v z):=by unfold tuW ownG;go_grown
set_option maxHeartbeats 16000000 in
theorem gturn_any (Ar:Option Addr) (R:List Int) (cr:Nat) (Ac:Option Addr) (K:List Int) (cc:Nat) (Ag:Option Addr) (cg:Nat) (zz:List CsL) (w:World) (hn:zz.length≤1048576) (hx:∀ x∈zz,x.L.length≤1048576) (hR:R.length≤1048576) (hK:K.length≤1048576) (hPr:PlAt w Ar cr R) (hPk:PlAt w Ac cc K) (hZ:CssV w Ag cg zz) :
  Calls Tryz.prog 36 #[.agg #[.slice Ar R.length cr,.slice Ac K.length cc,.slice Ag zz.length cg]] w (MkRes w (tuL (gErr R.length K.length (lZ zz)) K) (tuL (gErr R.length K.length (lZ zz)) R) (tuZ (gErr R.length K.length (lZ zz)) (lZ zz) R.length K.length) (gErr R.length K.length (lZ zz))):=by
 have hB0:=tuW_below w (.slice Ar R.length cr) (.slice Ac K.length cc) (.slice Ag zz.length cg)
 obtain ⟨b1,b2⟩:=tuW_at w (.slice Ar R.length cr) (.slice Ac K.length cc) (.slice Ag zz.length cg)
 obtain ⟨W,hW⟩:∃ W,tuW w (.slice Ar R.length cr) (.slice Ac K.length cc) (.slice Ag zz.length cg)=W:=⟨_,rfl⟩
 rw [hW] at hB0 b1 b2
 unfold tuW ownG at hW
 have hck:=gcheck_any Ar R.length cr Ac K.length cc Ag cg zz W hn hx (hZ.later hB0)
 have hs:w.heap.size+1<W.heap.size:=(Array.getElem?_eq_some_iff.1 b2).1
 have HB0:=hid_of hB0
 have HK:Hid (∀ w',Below W.heap.size W w'→w'.heap[w.heap.size]?=some (.cells #[.slice Ar R.length cr,.slice Ac K.length cc,.slice Ag zz.length cg] 75 (0,0))∧w'.heap[w.heap.size+1]?=some (.cells #[.slice none 0 0,.slice none 0 0,.slice none 0 0] 75 (0,0))∧w.heap.size+1<w'.heap.size):=fun w' h=>⟨(h.block _ (by omega)).trans b1,(h.block _ hs).trans b2,Nat.lt_of_lt_of_le hs h.size⟩
 obtain ⟨k0,k1,k2,-,-,-⟩:=tri_at b1
 have HPr:=hid_of hPr
 have HPk:=hid_of hPk
 have HZ:=hid_of hZ
 have hs0:w.heap.size<W.heap.size:=by omega
 clear hB0 b1 b2 hPr hPk hZ
 go_enter Tryz.func36,Tryz.ntmps36
 go_wp2_with fail
 refine hck.mono ?_
 rintro e w1 ⟨he,hb1⟩
 obtain ⟨d1,d2,d3⟩:=HK.out w1 hb1
 by_cases hE:gErr R.length K.length (lZ zz)=0
 case neg =>
  rw [errV_some hE] at he
  subst he
  obtain ⟨s0,s1,s2,g0,g1,g2⟩:=tri_at d2
  obtain ⟨t0,t1,t2,-,-,-⟩:=tri_at (tri_set (a:=.slice none 0 0) (b:=.slice none 0 0) (c:=.slice none 0 0) d2)
  obtain ⟨U,hU⟩:∃ U,((w1.setCell ⟨w.heap.size+1,0,none⟩ (.slice none 0 0)).setCell ⟨w.heap.size+1,1,none⟩ (.slice none 0 0)).setCell ⟨w.heap.size+1,2,none⟩ (.slice none 0 0)=U:=⟨_,rfl⟩
  have HF:Hid (MkRes w (tuL (gErr R.length K.length (lZ zz)) K) (tuL (gErr R.length K.length (lZ zz)) R) (tuZ (gErr R.length K.length (lZ zz)) (lZ zz) R.length K.length) (gErr R.length K.length (lZ zz)) (.returned (.tuple #[.agg #[.slice none 0 0,.slice none 0 0,.slice none 0 0],.iface 104 (.int .i64 (gErr R.length K.length (lZ zz)))])) U):=by
   show MkRes ..
   unfold tuL tuZ
   rw [if_neg hE,if_neg hE,if_neg hE,←hU]
   exact mkres_bad hE (below_tri (onB HB0.out hb1) (by omega))
  rw [hU] at t0 t1 t2
  clear hb1 d1 d2 hck hE HK HZ HPr HPk k0 k1 k2
  go_wp2_with fail
  exact bodyPost_ret (v:=.tuple #[.agg #[.slice none 0 0,.slice none 0 0,.slice none 0 0],.iface 104 (.int .i64 (gErr R.length K.length (lZ zz)))]) (by simp [results,Tryz.results36,go_sem,t0,t1,t2]) rfl HF.out
 rw [hE,errV_zero] at he
 subst he
 obtain ⟨hzl,hzr,-⟩:=gErr_right hE
 rw [lZ_len] at hzl
 have HE:=hid_of hE
 have HW1:=hid_of hb1
 have HZ1:=hid_of (HZ.out.later (onB HB0.out hb1))
 obtain ⟨r0,r1,r2,-,-,-⟩:=tri_at d1
 have htab:=table_any 77 #[.pointer (some ⟨w.heap.size,0,none⟩)] (fun k i=>((lZ zz).getD i []).getD k noC) (fun w'=>Below w1.heap.size w1 w') (fun _=>False) K.length R.length w1 hK hR turn1_in (fun b h=>h.elim) (Below.refl _ _) (fun w' w'' h hk=>⟨hk.os.trans h.os,hk.tape.trans h.tape,hk.output.trans h.output,Nat.le_trans h.size hk.size,fun b hb=>(hk.block b hb id).trans (h.block b hb)⟩)
  (fun r c w' hr hc hI _=>by
   have hcz:c<zz.length:=by omega
   have hm:=hzr _ (rowD_mem (Z:=lZ zz) (i:=c) (by rw [lZ_len];exact hcz))
   rw [lZ_at] at hm
   have h:=turn1_any w.heap.size Ag cg zz r c w' hcz (by omega) ((hI.cell (p:=⟨w.heap.size,2,none⟩) (by simp only;omega)).trans r2) (HZ1.out.later hI)
   rw [←lZ_at] at h
   exact h.mono fun e w'' ⟨h1,h2⟩=>⟨h1,onB hI h2,kept_below h2 (Nat.le_refl _)⟩)
 have HX:Hid (w.heap.size+1<w1.heap.size):=d3
 clear hb1 d1 d2 hck hE k0 k1 k2 hzl hzr r2
 have d3':w.heap.size<w1.heap.size:=by omega
 go_wp2_with fail
 refine htab.mono ?_
 rintro e w3 ⟨⟨tz,rfl,htl,hTz,hlz⟩,hB3,-⟩
 have HB3:=hid_of (onB HW1.out hB3)
 obtain ⟨d1,d2,d4⟩:=HK.out w3 HB3.out
 have HPr3:=hid_of (HPr.out.later (onB HB0.out HB3.out))
 have HPk3:=hid_of (HPk.out.later (onB HB0.out HB3.out))
 have HTz:=hid_of hTz
 have HLz:=hid_of hlz
 have HTl:=hid_of htl
 have HKw:Hid (∀ w',Below w3.heap.size w3 w'→Below w3.heap.size w3 w'∧w'.cell? ⟨w.heap.size,0,none⟩=some (.slice Ar R.length cr)∧w'.cell? ⟨w.heap.size,1,none⟩=some (.slice Ac K.length cc)∧w'.cell? ⟨w.heap.size+1,0,none⟩=some (.slice none 0 0)∧w'.cell? ⟨w.heap.size+1,1,none⟩=some (.slice none 0 0)∧w'.cell? ⟨w.heap.size+1,2,none⟩=some (.slice none 0 0)∧w'.frozen? ⟨w.heap.size+1,0,none⟩=false∧w'.frozen? ⟨w.heap.size+1,1,none⟩=false∧w'.frozen? ⟨w.heap.size+1,2,none⟩=false):=fun w' h=>by
  obtain ⟨q0,q1,-,-,-,-⟩:=tri_at ((h.block _ (by omega)).trans d1)
  obtain ⟨v0,v1,v2,v3,v4,v5⟩:=tri_at ((h.block _ d4).trans d2)
  exact ⟨h,q0,q1,v0,v1,v2,v3,v4,v5⟩
 have HEnd:Hid (∀ (w9:World) (A1:Option Addr) (c1:Nat) (A2:Option Addr) (c2:Nat),Below w3.heap.size w3 w9→IntT w9 A1 c1 K→IntT w9 A2 c2 R→∃ U,((w9.setCell ⟨w.heap.size+1,0,none⟩ (.slice A1 K.length c1)).setCell ⟨w.heap.size+1,1,none⟩ (.slice A2 R.length c2)).setCell ⟨w.heap.size+1,2,none⟩ (.slice (some ⟨w1.heap.size,0,none⟩) K.length K.length)=U∧U.cell? ⟨w.heap.size+1,0,none⟩=some (.slice A1 K.length c1)∧U.cell? ⟨w.heap.size+1,1,none⟩=some (.slice A2 R.length c2)∧U.cell? ⟨w.heap.size+1,2,none⟩=some (.slice (some ⟨w1.heap.size,0,none⟩) K.length K.length)∧Hid (MkRes w (tuL (gErr R.length K.length (lZ zz)) K) (tuL (gErr R.length K.length (lZ zz)) R) (tuZ (gErr R.length K.length (lZ zz)) (lZ zz) R.length K.length) (gErr R.length K.length (lZ zz)) (.returned (.tuple #[.agg #[.slice A1 K.length c1,.slice A2 R.length c2,.slice (some ⟨w1.heap.size,0,none⟩) K.length K.length],.nilIface])) U)):=fun w9 A1 c1 A2 c2 h9 hp1 hp2=>by
  have h2:=(h9.block _ d4).trans d2
  obtain ⟨t0,t1,t2,-,-,-⟩:=tri_at (tri_set (a:=.slice A1 K.length c1) (b:=.slice A2 R.length c2) (c:=.slice (some ⟨w1.heap.size,0,none⟩) K.length K.length) h2)
  refine ⟨_,rfl,t0,t1,t2,?_⟩
  show MkRes ..
  unfold tuL tuZ
  rw [HE.out,if_pos rfl,if_pos rfl,if_pos rfl]
  have hoff:∀ b,b≠w.heap.size+1→(((w9.setCell ⟨w.heap.size+1,0,none⟩ (.slice A1 K.length c1)).setCell ⟨w.heap.size+1,1,none⟩ (.slice A2 R.length c2)).setCell ⟨w.heap.size+1,2,none⟩ (.slice (some ⟨w1.heap.size,0,none⟩) K.length K.length)).heap[b]?=w9.heap[b]?:=fun b hb=>((setCell_off _ _ _ _ _ hb).trans (setCell_off _ _ _ _ _ hb)).trans (setCell_off _ _ _ _ _ hb)
  have hne:∀ (b:Nat) (cs:Array Value) (fr:Nat×Nat),w9.heap[b]?=some (Obj.cells cs 3 fr)→b≠w.heap.size+1:=fun b cs fr hb e=>by
   rw [e,h2] at hb
   simp at hb
  refine ⟨⟨A1,c1,A2,c2,some ⟨w1.heap.size,0,none⟩,K.length,tz,by rw [HTl.out];rfl,?_,?_,HTz.out _ (Nat.le_trans h9.size (by simp)) fun b hb hb2=>(hoff b (by omega)).trans (h9.block b hb2),HLz.out⟩,below_tri (onB (onB HB0.out HB3.out) h9) (by omega)⟩
  ·exact pl_ints (hp1.keep fun b cs fr hb=>hoff b (hne b cs fr hb)).at
  ·exact pl_ints (hp2.keep fun b cs fr hb=>hoff b (hne b cs fr hb)).at
 obtain ⟨-,q0,q1,v0,v1,v2,v3,v4,v5⟩:=HKw.out w3 (Below.refl _ _)
 clear hB3 hTz hlz htl d1 d2 htab r0 r1
 go_wp2_with fail
 go_region_law ((go_simp;refine (iclone_pl _ _ _ _ (by first | exact hR | exact hK) (by first | exact HPr3.out.later (by go_grown) | exact HPk3.out.later (by go_grown))).mono ?_;rintro e w4 ⟨⟨u4,rfl,hO4⟩,hb4⟩;obtain ⟨A4,c4,rfl,hT4⟩:=intT_own hO4;have hB4:=onB (W0:=w3) (by go_grown) hb4;have hy4:=hB4.size;obtain ⟨-,q0,q1,v0,v1,v2,v3,v4,v5⟩:=HKw.out w4 hB4;first | (have HI1:Hid (IntT w4 A4 c4 R):=hT4;have HX1:=hid_of hb4) | (have HI2:Hid (IntT w4 A4 c4 K):=hT4;have HX2:=hid_of hb4);clear hO4 hT4 hb4))
 all_goals (have h1:=HX1.out;have h2:=HX2.out;have z1:IntT w4 _ _ R:=HI1.out.later (by go_grown);have z2:IntT w4 _ _ K:=HI2.out.later (by go_grown);obtain ⟨U,hU,t0,t1,t2,HF⟩:=HEnd.out w4 _ _ _ _ hB4 z2 z1;clear h1 h2 z1 z2)
 all_goals go_wp2_with fail
 all_goals rw [hU]
 all_goals exact bodyPost_ret (v:=_) (by simp [results,Tryz.results36,go_sem,t0,t1,t2]) rfl HF.out
set_option maxHeartbeats 1000000 in
theorem sameints_pl (A B:Option Addr) (ca cb:Nat) (L:List Int) (w:World) (hn:L.length≤1048576) (hA:PlAt w A ca L) (hB:PlAt w B cb L):Calls Tryz.prog 72 #[.slice A L.length ca,.slice B L.length cb] w fun e w'=>e=.returned (.bool true)∧Below w.heap.size w w':=by
 obtain ⟨hc,h0 | ⟨b,o,rfl,hbw,hcell⟩⟩:=hA
 ·subst h0
  simp only [List.length_nil]
  go_enter Tryz.func72,Tryz.ntmps72
  go_wp2_with fail
  refine wp_loop_rounds 1 ?_
  rw [rounds_succ]
  go_wp2_with fail
  go_ret
  exact ⟨rfl,Below.refl _ _⟩
 ·obtain ⟨hc',h0 | ⟨b',o',rfl,hbw',hcell'⟩⟩:=hB
  ·subst h0
   simp only [List.length_nil]
   go_enter Tryz.func72,Tryz.ntmps72
   go_wp2_with fail
   refine wp_loop_rounds 1 ?_
   rw [rounds_succ]
   go_wp2_with fail
   go_ret
   exact ⟨rfl,Below.refl _ _⟩
  ·have HC:Hid (∀ j,j<L.length→w.cell? ⟨b,o+j,none⟩=some (.int .i64 (L.getD j 0))):=hcell
   have HC':Hid (∀ j,j<L.length→w.cell? ⟨b',o'+j,none⟩=some (.int .i64 (L.getD j 0))):=hcell'
   generalize hnn:L.length=n at hn hc hc' HC HC'
   clear hcell hcell' hnn
   have hn':(n:Int)≤1048576:=by omega
   go_enter Tryz.func72,Tryz.ntmps72
   go_wp2_with fail
   go_loopg [5] n (fun g s5 wr => ∃ (k:Nat),k≤n∧g=n-k∧s5=.int .i64 k∧Below w.heap.size w wr)
   case atStart=>exact ⟨0,Nat.zero_le _,rfl,rfl,Below.refl _ _⟩
   case round =>
    obtain ⟨k,hk,rfl,rfl,hBw⟩:=hrel
    have HBw:Hid (Below w.heap.size w wr):=hBw
    by_cases hlt:k<n
    ·have hki:(k:Int)<(n:Int):=by omega
     have x1:=(hBw.cell (p:=⟨b,o+k,none⟩) hbw).trans (HC.out k hlt)
     have x2:=(hBw.cell (p:=⟨b',o'+k,none⟩) hbw').trans (HC'.out k hlt)
     generalize L.getD k 0=x at x1 x2
     clear hBw
     go_wp2_with fail
     go_quiet (fail)
     go_wp2_with fail
     go_roundg (n-(k+1))
     case measure=>omega
     case rel=>exact ⟨k+1,by omega,rfl,by go_num,onB HBw.out (below_drewN (Below.refl _ _) _)⟩
    ·have hke:k=n:=by omega
     subst hke
     clear hBw
     go_wp2_with fail
     go_ret
     exact ⟨rfl,HBw.out⟩
set_option maxHeartbeats 4000000 in
theorem samecells_big (A B:Option Addr) (ca cb:Nat) (L:List (Int×Int)) (w:World) (hn:L.length≤1048576) (hA:CelV w A ca L) (hB:CelV w B cb L):Calls Tryz.prog 20 #[.slice A L.length ca,.slice B L.length cb] w fun e w'=>e=.returned (.bool true)∧Below w.heap.size w w':=by
 have HA:Hid (CelV w A ca L):=hA
 have HB:Hid (CelV w B cb L):=hB
 obtain ⟨N,hN⟩:∃ N,L.length=N:=⟨_,rfl⟩
 have HN:Hid (L.length=N):=hN
 rw [hN] at hn ⊢
 have hn':(N:Int)≤1048576:=by omega
 have hne:((N:Int) != (N:Int))=false:=by simp
 clear hA hB hN
 go_enter Tryz.func20,Tryz.ntmps20
 go_wp2_with fail
 go_loopg [5] N (fun g s5 wr => ∃ (k:Nat),k≤N∧g=N-k∧s5=.int .i64 k∧Below w.heap.size w wr)
 case atStart=>exact ⟨0,Nat.zero_le _,rfl,rfl,Below.refl _ _⟩
 case round =>
  obtain ⟨k,hk,rfl,rfl,hBw⟩:=hrel
  have HW:Hid (Below w.heap.size w wr):=hBw
  by_cases hlt:k<N
  ·have hki:(k:Int)<(N:Int):=by omega
   have hkL:k<L.length:=by rw [HN.out];exact hlt
   obtain ⟨hca,-,h0 | ⟨b1,o1,rfl,hA⟩⟩:=HA.out.later hBw
   ·rw [h0] at hkL;simp at hkL
   obtain ⟨hcb,-,h0 | ⟨b2,o2,rfl,hB⟩⟩:=HB.out.later hBw
   ·rw [h0] at hkL;simp at hkL
   obtain ⟨a1,a2⟩:=hA.2 k hkL
   obtain ⟨b1',b2'⟩:=hB.2 k hkL
   rw [HN.out] at hca hcb
   generalize (L.getD k noC).1=x at a1 b1'
   generalize (L.getD k noC).2=y at a2 b2'
   clear hA hB hBw
   go_wp2_with fail
   first | (go_quiet (fail);go_wp2_with fail) | skip
   go_roundg (N-(k+1))
   case measure=>omega
   case rel=>first | exact ⟨k+1,by omega,rfl,by go_num,HW.out⟩ | exact ⟨k+1,by omega,rfl,by go_num,below_drewN HW.out _⟩
  ·have hke:k=N:=by omega
   subst hke
   clear hBw
   go_wp2_with fail
   go_ret
   exact ⟨rfl,HW.out⟩
def saW (w:World) (u v z u' v' z':Value):World:=(ownG w u v z).alloc (.cells #[u',v',z'] 75)
theorem saW_at (w:World) (u v z u' v' z':Value):(saW w u v z u' v' z').heap[w.heap.size]?=some (.cells #[u,v,z] 75 (0,0))∧(saW w u v z u' v' z').heap[w.heap.size+1]?=some (.cells #[u',v',z'] 75 (0,0)):=by
 have h1:=ownG_at w u v z
 have hs:(ownG w u v z).heap.size=w.heap.size+1:=by simp [ownG]
 refine ⟨(Below.heap_alloc _ _ _ (by omega)).trans h1,?_⟩
 rw [←hs]
 exact heap_alloc_new ..
theorem saW_below (w:World) (u v z u' v' z':Value):Below w.heap.size w (saW w u v z u' v' z'):=by unfold saW ownG;go_grown
set_option maxHeartbeats 8000000 in
theorem samegrid_any (Ar:Option Addr) (cr:Nat) (Ac:Option Addr) (cc:Nat) (Ag:Option Addr) (cg:Nat) (zz:List CsL) (Br:Option Addr) (dr:Nat) (Bc:Option Addr) (dc:Nat) (Bg:Option Addr) (dg:Nat) (yy:List CsL) (R K:List Int) (w:World) (hR:R.length≤1048576) (hK:K.length≤1048576) (hn:zz.length≤1048576) (hx:∀ x∈zz,x.L.length≤1048576) (a1:PlAt w Ar cr R) (a2:PlAt w Ac cc K) (a3:CssV w Ag cg zz) (b1:PlAt w Br dr R) (b2:PlAt w Bc dc K) (b3:CssV w Bg dg yy) (he:lZ zz=lZ yy) :
  Calls Tryz.prog 33 #[.agg #[.slice Ar R.length cr,.slice Ac K.length cc,.slice Ag zz.length cg],.agg #[.slice Br R.length dr,.slice Bc K.length dc,.slice Bg yy.length dg]] w fun e w'=>e=.returned (.bool true)∧Below w.heap.size w w':=by
 have hl:yy.length=zz.length:=by rw [←lZ_len,←lZ_len,he]
 rw [hl]
 have hB0:=saW_below w (.slice Ar R.length cr) (.slice Ac K.length cc) (.slice Ag zz.length cg) (.slice Br R.length dr) (.slice Bc K.length dc) (.slice Bg zz.length dg)
 obtain ⟨x1,x2⟩:=saW_at w (.slice Ar R.length cr) (.slice Ac K.length cc) (.slice Ag zz.length cg) (.slice Br R.length dr) (.slice Bc K.length dc) (.slice Bg zz.length dg)
 obtain ⟨W,hW⟩:∃ W,saW w (.slice Ar R.length cr) (.slice Ac K.length cc) (.slice Ag zz.length cg) (.slice Br R.length dr) (.slice Bc K.length dc) (.slice Bg zz.length dg)=W:=⟨_,rfl⟩
 rw [hW] at hB0 x1 x2
 unfold saW ownG at hW
 have hs:w.heap.size+1<W.heap.size:=(Array.getElem?_eq_some_iff.1 x2).1
 have HK:Hid (∀ w',Below W.heap.size W w'→(w'.cell? ⟨w.heap.size,0,none⟩=some (.slice Ar R.length cr)∧w'.cell? ⟨w.heap.size,1,none⟩=some (.slice Ac K.length cc)∧w'.cell? ⟨w.heap.size,2,none⟩=some (.slice Ag zz.length cg))∧(w'.cell? ⟨w.heap.size+1,0,none⟩=some (.slice Br R.length dr)∧w'.cell? ⟨w.heap.size+1,1,none⟩=some (.slice Bc K.length dc)∧w'.cell? ⟨w.heap.size+1,2,none⟩=some (.slice Bg zz.length dg))∧w.heap.size+1<w'.heap.size):=fun w' h=>by
  obtain ⟨p0,p1,p2,-,-,-⟩:=tri_at ((h.block _ (by omega)).trans x1)
  obtain ⟨q0,q1,q2,-,-,-⟩:=tri_at ((h.block _ hs).trans x2)
  exact ⟨⟨p0,p1,p2⟩,⟨q0,q1,q2⟩,Nat.lt_of_lt_of_le hs h.size⟩
 have HB0:=hid_of hB0
 have HX:=hid_of hx
 have HE:=hid_of he
 have HL:=hid_of hl
 have A2:=hid_of (a2.later hB0)
 have A3:=hid_of (a3.later hB0)
 have B2:=hid_of (b2.later hB0)
 have B3:=hid_of (b3.later hB0)
 have hs1:=sameints_pl Ar Br cr dr R W hR (a1.later hB0) (b1.later hB0)
 obtain ⟨⟨p0,p1,p2⟩,⟨q0,q1,q2⟩,-⟩:=HK.out W (Below.refl _ _)
 obtain ⟨N,hN⟩:∃ N,zz.length=N:=⟨_,rfl⟩
 have HN:=hid_of hN
 rw [hN] at HK hW hn p2 q2 ⊢
 have hNI:(N:Int)≤1048576:=by omega
 have hne:((N:Int) != (N:Int))=false:=by simp
 have hs0:w.heap.size<W.heap.size:=by omega
 clear hB0 x1 x2 a1 a2 a3 b1 b2 b3 he hl hN hx
 go_enter Tryz.func33,Tryz.ntmps33
 go_wp2_with fail
 refine hs1.mono ?_
 rintro e w1 ⟨rfl,hb1⟩
 obtain ⟨⟨p0,p1,p2⟩,⟨q0,q1,q2⟩,z1⟩:=HK.out w1 hb1
 have hs2:=sameints_pl Ac Bc cc dc K w1 hK (A2.out.later hb1) (B2.out.later hb1)
 have HB1:=hid_of hb1
 have z0:w.heap.size<w1.heap.size:=by omega
 clear hb1 hs1
 go_wp2_with fail
 refine hs2.mono ?_
 rintro e w2 ⟨rfl,hb2⟩
 have HB2:=hid_of (onB HB1.out hb2)
 obtain ⟨⟨p0,p1,p2⟩,⟨q0,q1,q2⟩,z1⟩:=HK.out w2 HB2.out
 have z0:w.heap.size<w2.heap.size:=by omega
 clear hb2 hs2 HB1
 go_wp2_with fail
 go_loopg [7] N (fun g s7 wr => ∃ (k:Nat),k≤N∧g=N-k∧s7=.int .i64 k∧Hid (Below W.heap.size W wr))
 case atStart=>exact ⟨0,Nat.zero_le _,rfl,rfl,HB2⟩
 case round =>
  obtain ⟨k,hk,rfl,rfl,HB⟩:=hrel
  obtain ⟨⟨p0,p1,p2⟩,⟨q0,q1,q2⟩,z1⟩:=HK.out wr HB.out
  have z0:w.heap.size<wr.heap.size:=by omega
  by_cases hlt:k<N
  ·have hki:(k:Int)<(N:Int):=by omega
   have hkz:k<zz.length:=by rw [HN.out];exact hlt
   have hky:k<yy.length:=by rw [HL.out];exact hkz
   obtain ⟨hc1,-,h0 | ⟨ba,oa,rfl,hba,hca⟩⟩:=A3.out.later HB.out
   ·rw [h0] at hkz;simp at hkz
   obtain ⟨hc2,-,h0 | ⟨bb,ob,rfl,hbb,hcb⟩⟩:=B3.out.later HB.out
   ·rw [h0] at hky;simp at hky
   obtain ⟨e1,v1⟩:=hca k hkz
   obtain ⟨e2,v2⟩:=hcb k hky
   have hxl:=HX.out _ (zz_mem hkz)
   have heq:(yy.getD k noCs).L=(zz.getD k noCs).L:=by rw [←lZ_at,←lZ_at,HE.out]
   rw [heq] at e2 v2
   generalize zz.getD k noCs=xz at e1 v1 hxl e2 v2
   generalize yy.getD k noCs=yz at e2 v2
   obtain ⟨xl,xA,xc⟩:=xz
   obtain ⟨yl,yA,yc⟩:=yz
   simp only at e1 v1 hxl e2 v2
   have HC:Hid (∀ w',Below wr.heap.size wr w'→Calls Tryz.prog 20 #[.slice xA xl.length xc,.slice yA xl.length yc] w' fun e w''=>e=.returned (.bool true)∧Below w'.heap.size w' w''):=fun w' h=>samecells_big xA yA xc yc xl w' hxl (v1.later h) (v2.later h)
   generalize xl.length=m at e1 e2 HC
   have hcI:(N:Int)≤(cg:Int):=by have:=HN.out;omega
   have hdI:(N:Int)≤(dg:Int):=by have:=HN.out;have:=HL.out;omega
   clear hca hcb v1 v2 heq hxl
   go_wp2_with fail
   go_region_law ((go_simp;refine (HC.out _ (by go_grown)).mono ?_;rintro e w3 ⟨rfl,hb3⟩))
   all_goals (have HB3:Hid (Below W.heap.size W w3):=onB HB.out (onB (by go_grown) hb3);clear hb3)
   all_goals go_wp2_with fail
   all_goals go_roundg (N-(k+1))
   all_goals first | omega | exact ⟨k+1,by omega,rfl,by go_num,HB3⟩
  ·have hke:k=N:=by omega
   subst hke
   go_wp2_with fail
   go_ret
   exact ⟨rfl,onB HB0.out HB.out⟩
end Go.Proofs.YtmmpanbkmpdnkahGreatDoor
