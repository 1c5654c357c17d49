/-
  What tallylaw2.SolveRolls answers, called in whatever memory: true.
-/
import Derived.Test.YtaodedckffjpgafGreatDoorJXCD
namespace Go.Proofs.YtaodedckffjpgafGreatDoor
open Go.ChangeShapes Go.WideShapes Go.ChangeAt Go.RowKit
set_option maxRecDepth 20000
theorem outX_cell {w w1:World} {A0:Option Addr} {n cap:Nat} (hB:Below (ownOut w A0 n cap 42).heap.size (ownOut w A0 n cap 42) w1):w1.heap[w.heap.size]?=some (.cells #[.slice A0 n cap] 42 (0,0)):=by
 have hS:=ownOut_size w A0 n cap 42
 rw [hB.block _ (by omega)]
 unfold ownOut
 exact heap_alloc_new ..
theorem low_grownX {N base e size n:Nat} {y wi w1:World} {v:Value} {xs:List Value} {o:Obj} (h:Below N y wi) (hN:N≤y.heap.size) (hO:wi.ownsRow base e size v n xs) (hb:N≤base) (hgrow:(wi.alloc o).grownBy w1 v.ownBlock):Below N y w1 :=
 ⟨hgrow.os.trans h.os,hgrow.tape.trans h.tape,hgrow.output.trans h.output,Nat.le_trans h.size (by have:=hgrow.size;simp at this;omega),fun b hb'=>by
  rw [hgrow.block b (by have:=h.size;simp;omega) (fun e=>by have:=(hO.lt b e.symm).1;omega),Below.heap_alloc _ _ _ (by have:=h.size;omega)]
  exact h.block b hb'⟩
theorem own_same {w w':World} {base e size n:Nat} {v:Value} {xs:List Value} (h:w.ownsRow base e size v n xs) (hs:∀ b,b<w.heap.size→w'.heap[b]?=w.heap[b]?):w'.ownsRow base e size v n xs:=by
 refine ⟨h.1,?_⟩
 rcases h.2 with h4 | ⟨g,cap,cur,h4,hb,hg,h5⟩
 ·exact Or.inl h4
 ·exact Or.inr ⟨g,cap,cur,h4,hb,(hs g (Array.getElem?_eq_some_iff.1 hg).1).trans hg,h5⟩
set_option maxHeartbeats 16000000 in
theorem srolls_law (A0:Option Addr) (cap n:Nat) (D:Nat→Dm) (A:Nat→Option Addr) (C:Nat→Nat) (AE:Option Addr) (ce:Nat) (xs:List EnL) (Ap:Option Addr) (cp:Nat) (p:List Int) (As:Option Addr) (cs:Nat) (L:List Int) (w:World) (hM:DimsV w A0 cap n D A C) (hEn:EnsV w AE ce xs) (hP:PlAt w Ap cp p) (hL:PlAt w As cs L) (hz:∀ i,i<n→(D i).n*48≤reachBytes) :
  Calls Tryz.prog 6 #[.agg #[.slice A0 n cap],.slice AE xs.length ce,.slice Ap p.length cp,.slice As L.length cs] w fun e w'=>e=.returned (.bool true)∧Below w.heap.size w w':=by
 obtain ⟨i0,hi0,hz0,hz1,hz2⟩:=info_parts Tryz.infoDimX
 obtain ⟨j0,hj0,hk0,hk1,hk2⟩:=info_parts Tryz.infoMemX
 have hB0:=ownOut_below w A0 n cap 42
 have hS0:=ownOut_size w A0 n cap 42
 have HO:Hid (∀ w1,Below (ownOut w A0 n cap 42).heap.size (ownOut w A0 n cap 42) w1→w1.heap[w.heap.size]?=some (.cells #[.slice A0 n cap] 42 (0,0))):=fun w1 h=>outX_cell h
 obtain ⟨W0,hW0⟩:∃ W,ownOut w A0 n cap 42=W:=⟨_,rfl⟩
 rw [hW0] at hB0 hS0 HO
 unfold ownOut at hW0
 have hB1:=rolW_below W0
 have hS1:=rolW_size W0
 have hcl:=pvalue_any (some ⟨W0.heap.size+1,0,none⟩) 1 1 twoD (fun _=>some ⟨W0.heap.size,0,none⟩) (fun _=>2) (some ⟨W0.heap.size+4,0,none⟩) 1 (rolX W0) (some ⟨W0.heap.size+5,0,none⟩) 1 [0] (rolW W0) (rolW_dims W0) (rolW_ents W0) (rolW_place W0)
 have hko:=rolW_out W0
 rw [rolX_l,two_so,two_val,errV_zero] at hcl
 have hx1:(rolX W0).length=1:=rfl
 have hx2:([0]:List Int).length=1:=rfl
 rw [hx1,hx2] at hcl
 obtain ⟨W1,hW1⟩:∃ W,rolW W0=W:=⟨_,rfl⟩
 rw [hW1] at hB1 hS1 hcl hko
 unfold rolW at hW1
 rw [show W0.heap.size+3=W0.heap.size+1+1+1 from rfl] at hW1
 rw [show W0.heap.size+4=W0.heap.size+1+1+1+1 from rfl,show W0.heap.size+5=W0.heap.size+1+1+1+1+1 from rfl] at hcl
 rw [show W0.heap.size+2=W0.heap.size+1+1 from rfl] at hko
 have HS0:Hid (W0.heap.size=w.heap.size+1):=hS0
 have HS1:Hid (W1.heap.size=W0.heap.size+6):=hS1
 have HB0:Hid (Below w.heap.size w W0):=hB0
 have HB1:Hid (Below W0.heap.size W0 W1):=hB1
 have HM:Hid (DimsV w A0 cap n D A C):=hM
 have HEn:Hid (EnsV w AE ce xs):=hEn
 have HP:Hid (PlAt w Ap cp p):=hP
 have HL:Hid (PlAt w As cs L):=hL
 have HZ:Hid (∀ i,i<n→(D i).n*48≤reachBytes):=hz
 obtain ⟨xl,hxl⟩:∃ xl,xs.length=xl:=⟨_,rfl⟩
 have HXl:Hid (xs.length=xl):=hxl
 obtain ⟨pl,hpl⟩:∃ pl,p.length=pl:=⟨_,rfl⟩
 have HPl:Hid (p.length=pl):=hpl
 obtain ⟨sl,hsl⟩:∃ sl,L.length=sl:=⟨_,rfl⟩
 have HSl:Hid (L.length=sl):=hsl
 rw [hxl,hpl,hsl]
 clear hS0 hS1 hM hEn hP hL hz hB0 hB1 hxl hpl hsl hx1 hx2
 go_enter Tryz.func6,Tryz.ntmps6
 go_wp2_with fail
 refine hcl.mono ?_
 rintro e w2 ⟨rfl,hb2⟩
 have HB2:Hid (Below W1.heap.size W1 w2):=hb2
 obtain ⟨y,hy⟩:∃ y,w2.alloc (.cells #[.int .i64 1,.int .i64 14] 48)=y:=⟨_,rfl⟩
 have hBy:Below w2.heap.size w2 y:=by rw [←hy];go_grown
 obtain ⟨f0,f1,-,-⟩:=pair_at (show y.heap[w2.heap.size]?=some (.cells #[.int .i64 1,.int .i64 14] 48 (0,0)) from by rw [←hy];exact heap_alloc_new ..)
 have hyl:w2.heap.size<y.heap.size:=by rw [←hy];simp
 have HBy:Hid (Below W0.heap.size W0 y):=onB HB1.out (onB hb2 hBy)
 obtain ⟨z,hz⟩:∃ z,y.alloc (.cells #[.slice none 0 0] 42)=z:=⟨_,rfl⟩
 have hBz:Below y.heap.size y z:=by rw [←hz];go_grown
 have HXz:Hid (∀ AA CC,XAt y.heap.size (y.heap.size+1) (bareO D L) AA CC 0 z):=fun AA CC=>⟨⟨none,0,by rw [←hz];exact heap_alloc_new ..,World.ownsRow_nil _ _ _ _⟩,fun j hj=>absurd hj (Nat.not_lt_zero _)⟩
 have HYz:Hid (Below y.heap.size y z):=hBz
 have hW0y:w.heap.size<y.heap.size:=by have:=HBy.out.size;have:=HS0.out;omega
 clear hcl hb2 hBy hBz hko hW0 hW1
 go_wp2_with fail
 clear hy hz f0 f1
 obtain ⟨NX,hNX⟩:∃ NX,min n 10=NX:=⟨_,rfl⟩
 have HNX:Hid (NX=min n 10):=hNX.symm
 have hNX10:NX≤10:=by omega
 have hNXn:NX≤n:=by omega
 clear hNX
 go_loopg [13] NX (fun gg s13 wr => ∃ (i:Nat) (AA:Nat→Option Addr) (CC:Nat→Nat),i≤NX∧gg=NX-i∧s13=.int .i64 i∧Hid (XAt y.heap.size (y.heap.size+1) (bareO D L) AA CC i wr)∧Hid (Below y.heap.size y wr))
 case atStart=>exact ⟨0,fun _=>none,fun _=>0,Nat.zero_le _,rfl,rfl,HXz.out _ _,HYz⟩
 case round =>
  obtain ⟨wo,rfl⟩:∃ wo:World,wo=wr:=⟨_,rfl⟩
  obtain ⟨i,AA,CC,hi,rfl,rfl,HX,HBr⟩:=hrel
  have HBw:Hid (Below w.heap.size w wo):=onB (onB HB0.out HBy.out) HBr.out
  have hob:=HO.out wo (onB HBy.out HBr.out)
  have hol:w.heap.size<wo.heap.size:=(Array.getElem?_eq_some_iff.1 hob).1
  have co:wo.cell? ⟨w.heap.size,0,none⟩=some (.slice A0 n cap):=by simp [World.cell?,hob]
  by_cases hlt:i<NX
  ·have hin:i<n:=by omega
   have hii:(i:Int)<(n:Int):=by omega
   have hi10:(i:Int)<10:=by omega
   obtain ⟨hcap,h0 | ⟨b,o,rfl,hMs⟩⟩:=HM.out.later HBw.out
   ·omega
   have hcapI:(n:Int)≤(cap:Int):=by omega
   have hbr:b<wo.heap.size:=hMs.1
   obtain ⟨d0,d1,d2,d3⟩:=hMs.2 i hin
   have HMb:Hid (b<w.heap.size∧∀ w',Below w.heap.size w w'→DimAt w' b (o+i*3) (D i) (A i) (C i)):=by
    obtain ⟨-,h0 | ⟨b',o',h1,h2⟩⟩:=HM.out
    ·omega
    cases h1
    exact ⟨h2.1,fun w' h=>(h2.later h).2 i hin⟩
   have HZi:Hid ((D i).n*48≤reachBytes):=HZ.out i hin
   have HObx:Hid (wo.heap[w.heap.size]?=some (.cells #[.slice (some ⟨b,o,none⟩) n cap] 42 (0,0))):=hob
   obtain ⟨nm,hnm⟩:∃ nm,(D i).name=nm:=⟨_,rfl⟩
   obtain ⟨sv,hsv⟩:∃ sv,(D i).solve=sv:=⟨_,rfl⟩
   have HNm:Hid ((D i).name=nm∧(D i).solve=sv):=⟨hnm,hsv⟩
   rw [hnm] at d0
   rw [hsv] at d1
   clear d3 hMs hnm hsv
   go_upto_region 9 with fail
   go_cut [14] from 48 to 113 (fun s14 wx=>s14=.pointer (some ⟨wo.heap.size,0,none⟩)∧wx.heap[wo.heap.size]?=some (.cells #[.string nm,.int .i64 sv,.slice none 0 0] 24 (0,0))∧Below wo.heap.size wo wx)
   case first =>
    go_region
    all_goals go_wp2_with fail
    all_goals go_meet
    all_goals exact ⟨rfl,topFd wo _,by go_grown⟩
   case rest =>
   obtain ⟨rfl,hdb,hBc⟩:=hcut
   obtain ⟨w4,rfl⟩:∃ w4:World,w4=wc:=⟨_,rfl⟩
   have HDb:Hid (w4.heap[wo.heap.size]?=some (.cells #[.string nm,.int .i64 sv,.slice none 0 0] 24 (0,0))):=hdb
   have HB4:Hid (Below wo.heap.size wo w4):=hBc
   have hl4:wo.heap.size<w4.heap.size:=(Array.getElem?_eq_some_iff.1 hdb).1
   have q1:w4.cell? ⟨wo.heap.size,1,none⟩=some (.int .i64 sv):=by simp [World.cell?,hdb]
   have q2:w4.frozen? ⟨wo.heap.size,1,none⟩=false:=by simp [World.frozen?,hdb]
   have HSv:Hid (slv D L i=if i<L.length then L.getD i 0 else sv):=by show _=_;unfold slv;rw [HNm.out.2]
   obtain ⟨sx,hsx⟩:∃ sx,slv D L i=sx:=⟨_,rfl⟩
   have HSx:Hid (slv D L i=sx):=hsx
   rw [hsx] at HSv
   clear hdb hBc hsx d0 d1 d2 co hob
   go_upto_if 75 with fail
   go_cut [] from 48 to 113 (fun wx=>wx.heap[wo.heap.size]?=some (.cells #[.string nm,.int .i64 sx,.slice none 0 0] 24 (0,0))∧Below wo.heap.size wo wx)
   case first =>
    by_cases hs:i<sl
    ·have hsI:(i:Int)<(sl:Int):=by omega
     obtain ⟨hcs,h0 | ⟨bs,os,rfl,hbs,hcell⟩⟩:=HL.out.later (onB HBw.out HB4.out)
     ·have:=HSl.out;rw [h0] at this;simp at this;omega
     have c1:=hcell i (by rw [HSl.out];exact hs)
     have hcsI:(sl:Int)≤(cs:Int):=by rw [HSl.out] at hcs;omega
     have hsx:L.getD i 0=sx:=by have:=HSv.out;rw [HSl.out,if_pos hs] at this;exact this.symm
     rw [hsx] at c1
     clear hcell hsx
     go_wp2_with fail
     go_meet
     refine ⟨?_,HB4.out.setCell (Nat.le_refl _) _⟩
     rw [set_ty HDb.out]
     rfl
    ·have hsI:(sl:Int)≤(i:Int):=by omega
     have hsJ : ¬ (i:Int)<(sl:Int):=by omega
     have HE:Hid (sx=sv):=by have:=HSv.out;rw [HSl.out,if_neg hs] at this;exact this
     clear hs
     go_wp2_with fail
     go_meet
     exact ⟨by rw [HE.out];exact HDb.out,HB4.out⟩
   case rest =>
   obtain ⟨hdb,hBc⟩:=hcut
   obtain ⟨v0,rfl⟩:∃ v0:World,v0=wc:=⟨_,rfl⟩
   have HBv:Hid (Below wo.heap.size wo v0):=hBc
   have hlv:wo.heap.size<v0.heap.size:=(Array.getElem?_eq_some_iff.1 hdb).1
   have HI0:Hid (InAt wo.heap.size v0.heap.size nm sx (bareO D L i).mem 0 v0 v0):=⟨⟨none,0,hdb,World.ownsRow_nil _ _ _ _⟩,Kept.refl _ _ _⟩
   obtain ⟨ni,hni⟩:∃ ni,(D i).n=ni:=⟨_,rfl⟩
   have HNi:Hid ((D i).n=ni):=hni
   have hnz:ni*48≤reachBytes:=by rw [←hni];exact HZi.out
   have hrb:=reachBytes_lt
   have hni1:(ni:Int)≤140737488355328:=by omega
   clear hdb hBc hni q1 q2 HDb HB4 hl4
   go_wp2_with fail
   go_loopg [15] ni (fun gg s15 wi => ∃ (k:Nat),k≤ni∧gg=ni-k∧s15=.int .i64 k∧Hid (InAt wo.heap.size v0.heap.size nm sx (bareO D L i).mem k v0 wi))
   case atStart=>exact ⟨0,Nat.zero_le _,rfl,rfl,HI0⟩
   case round =>
    obtain ⟨wi,rfl⟩:∃ wi:World,wi=wr:=⟨_,rfl⟩
    obtain ⟨k,hk,rfl,rfl,HI⟩:=hrel
    obtain ⟨⟨Am,cm,hqd,hOm⟩,hK⟩:=HI.out
    have hBi:Below w.heap.size w wi:=kept_low (onB HBw.out HBv.out) hK (by omega) (by omega)
    have HBi:Hid (Below w.heap.size w wi):=hBi
    have HOm:Hid (wi.ownsRow v0.heap.size 26 4 (.slice Am k cm) k (cellsMb (bareO D L i).mem k)):=hOm
    have HQd:Hid (wi.heap[wo.heap.size]?=some (.cells #[.string nm,.int .i64 sx,.slice Am k cm] 24 (0,0))):=hqd
    have HK:Hid (Kept v0.heap.size (fun b=>b=wo.heap.size) v0 wi):=hK
    obtain ⟨d0,d1,d2,d3⟩:=HMb.out.2 wi hBi
    rw [HNi.out] at d2
    have hob:wi.heap[w.heap.size]?=some (.cells #[.slice (some ⟨b,o,none⟩) n cap] 42 (0,0)):=(hK.block _ (by omega) (by omega)).trans ((HBv.out.block _ hol).trans HObx.out)
    have co:wi.cell? ⟨w.heap.size,0,none⟩=some (.slice (some ⟨b,o,none⟩) n cap):=by simp [World.cell?,hob]
    have hol5:w.heap.size<wi.heap.size:=(Array.getElem?_eq_some_iff.1 hob).1
    have hbl5:b<wi.heap.size:=Nat.lt_of_lt_of_le HMb.out.1 hBi.size
    have hql5:wo.heap.size<wi.heap.size:=(Array.getElem?_eq_some_iff.1 hqd).1
    have hsz5:=hK.size
    have q2:wi.cell? ⟨wo.heap.size,2,none⟩=some (.slice Am k cm):=by simp [World.cell?,hqd]
    by_cases hkl:k<ni
    ·have hki:(k:Int)<(ni:Int):=by omega
     obtain ⟨hcm,h0 | ⟨bm,om,hAm,hMm⟩⟩:=d3
     ·rw [HNi.out] at h0;omega
     rw [HNi.out] at hcm
     have hcmI:(ni:Int)≤(C i:Int):=by omega
     obtain ⟨m0,m1,m2,m3⟩:=hMm.2 k (by rw [HNi.out];exact hkl)
     have hbm5:bm<wi.heap.size:=hMm.1
     rw [hAm] at d2
     have HCk:Hid (cellsMb (bareO D L i).mem (k+1)=cellsMb (bareO D L i).mem k ++ [.string ((D i).mem k).name,.int .i64 ((D i).mem k).parent,.int .i64 ((D i).mem k).sign,.string ⟨#[]⟩]):=rfl
     generalize ((D i).mem k).name=mn at m0 HCk
     generalize ((D i).mem k).parent=mp at m1 HCk
     generalize ((D i).mem k).sign=ms at m2 HCk
     generalize ((D i).mem k).formula=mf at m3
     obtain ⟨y4,hy4⟩:∃ y4,wi.alloc (.cells #[.string mn,.int .i64 mp,.int .i64 ms,.string mf] 26)=y4:=⟨_,rfl⟩
     have hb4:y4.heap[wi.heap.size]?=some (.cells #[.string mn,.int .i64 mp,.int .i64 ms,.string mf] 26 (0,0)):=by rw [←hy4];exact heap_alloc_new ..
     have x3:y4.cell? ⟨wi.heap.size,3,none⟩=some (.string mf):=by simp [World.cell?,hb4]
     have x4:y4.frozen? ⟨wi.heap.size,3,none⟩=false:=by simp [World.frozen?,hb4]
     have hl4:wi.heap.size<y4.heap.size:=(Array.getElem?_eq_some_iff.1 hb4).1
     obtain ⟨y5,hy5⟩:∃ y5,y4.setCell ⟨wi.heap.size,3,none⟩ (.string ⟨#[]⟩)=y5:=⟨_,rfl⟩
     have hs5:∀ b,b<wi.heap.size→y5.heap[b]?=wi.heap[b]?:=fun b hb=>by rw [←hy5,setCell_off _ _ _ _ _ (by omega),←hy4,Below.heap_alloc _ _ _ hb]
     have hz5:y5.heap.size=wi.heap.size+1:=by rw [←hy5,World.size_setCell,←hy4];simp
     have hb5:y5.heap[wi.heap.size]?=some (.cells #[.string mn,.int .i64 mp,.int .i64 ms,.string ⟨#[]⟩] 26 (0,0)):=by rw [←hy5,set_ty hb4];rfl
     have z0:y5.cell? ⟨wi.heap.size,0,none⟩=some (.string mn):=(Lib.cell_of_heap hb5 0).trans rfl
     have z1:y5.cell? ⟨wi.heap.size,1,none⟩=some (.int .i64 mp):=(Lib.cell_of_heap hb5 1).trans rfl
     have z2:y5.cell? ⟨wi.heap.size,2,none⟩=some (.int .i64 ms):=(Lib.cell_of_heap hb5 2).trans rfl
     have z3:y5.cell? ⟨wi.heap.size,3,none⟩=some (.string ⟨#[]⟩):=(Lib.cell_of_heap hb5 3).trans rfl
     have HQ5:Hid (y5.heap[wo.heap.size]?=some (.cells #[.string nm,.int .i64 sx,.slice Am k cm] 24 (0,0))):=(hs5 _ hql5).trans HQd.out
     have q5:y5.cell? ⟨wo.heap.size,2,none⟩=some (.slice Am k cm):=(Lib.cell_of_heap HQ5.out 2).trans rfl
     have HO5:Hid (y5.ownsRow v0.heap.size 26 4 (.slice Am k cm) k (cellsMb (bareO D L i).mem k)):=own_same HOm.out hs5
     have HK5:Hid (Kept v0.heap.size (fun b=>b=wo.heap.size) v0 y5):=HK.out.trans ⟨by rw [←hy5,←hy4];rfl,by rw [←hy5,←hy4];rfl,by rw [←hy5,←hy4];rfl,by omega,fun b hb _=>hs5 b (by omega)⟩
     have hv5:v0.heap.size≤y5.heap.size:=by omega
     have Hz5:Hid (y5.heap.size=wi.heap.size+1):=hz5
     clear hMm hAm hqd hOm hK hBi hob hz5 hb5 hs5
     go_wp2_with (at_builtin;refine wpList_append_own _ rfl _ _ 22 rfl v0.heap.size 26 j0 (.agg #[.string ⟨#[]⟩,.int .i64 0,.int .i64 0,.string ⟨#[]⟩]) 4 48 Tryz.underlying22 hj0 hk0 hk1 hk2 rfl (by decide) _ _ _ rfl (HO5.out.alloc _) ⟨y5.heap.size,0,none⟩ 1 1 [.string mn,.int .i64 mp,.int .i64 ms,.string ⟨#[]⟩] rfl rfl ?qe2 ?qe3 ?qe4 ?qe5 ?qe6 ?_)
     case qe2 =>
      intro j u hj
      rw [plain_addW,Lib.cell_of_heap (heap_alloc_new y5 (.cells #[.string mn,.int .i64 mp,.int .i64 ms,.string ⟨#[]⟩] 26))]
      simpa using hj
     case qe3=>intro u hu;simp at hu;rcases hu with rfl | rfl | rfl | rfl <;> rfl
     case qe4=>simp only [maxLen];omega
     case qe5=>omega
     case qe6=>simp;omega
     intro v' w7 hown' hgrow hnil
     obtain ⟨A7,c7,rfl⟩:=own_form hown'
     have hqn:some wo.heap.size≠(Value.slice Am k cm).ownBlock:=fun e=>by have:=(HO5.out.lt _ e.symm).1;omega
     have hq7:w7.heap[wo.heap.size]?=some (.cells #[.string nm,.int .i64 sx,.slice Am k cm] 24 (0,0)):=by
      rw [hgrow.block _ (by have:=Hz5.out;simp;omega) hqn,Below.heap_alloc _ _ _ (by have:=Hz5.out;omega)]
      exact HQ5.out
     have r7:w7.cell? ⟨wo.heap.size,2,none⟩=some (.slice Am k cm):=(Lib.cell_of_heap hq7 2).trans rfl
     have r8:w7.frozen? ⟨wo.heap.size,2,none⟩=false:=by simp [World.frozen?,hq7]
     have HI7:Hid (InAt wo.heap.size v0.heap.size nm sx (bareO D L i).mem (k+1) v0 (w7.setCell ⟨wo.heap.size,2,none⟩ (.slice A7 (k+1) c7))):=in_push hlv rfl HQ5.out HO5.out HK5.out (by rw [HCk.out];exact hown') hgrow
     clear hown' hgrow hnil hq7 hqn hy4 hy5 hb4 x3 x4 hl4
     go_wp2_with fail
     go_roundg (ni-(k+1))
     case measure=>omega
     case rel=>exact ⟨k+1,by omega,rfl,by go_num,HI7⟩
    ·have hke:k=ni:=by omega
     subst hke
     have hsw:∀ b',b'<wo.heap.size→wi.heap[b']?=wo.heap[b']?:=fun b' hb'=>(hK.block b' (by omega) (by omega)).trans (HBv.out.block b' hb')
     obtain ⟨⟨AX,cX,hqx,hOx⟩,hMx⟩:=HX.out.same hsw
     have hyo:y.heap.size<wo.heap.size:=by
      obtain ⟨⟨A0',c0',h1,-⟩,-⟩:=HX.out
      exact (Array.getElem?_eq_some_iff.1 h1).1
     have HQx:Hid (wi.heap[y.heap.size]?=some (.cells #[.slice AX i cX] 42 (0,0))):=hqx
     have HOx:Hid (wi.ownsRow (y.heap.size+1) 24 3 (.slice AX i cX) i (cellsDo (bareO D L) AA CC i)):=hOx
     have HMx:Hid (∀ j,j<i→MemT wi (AA j) (CC j) (bareO D L j).n (bareO D L j).mem):=hMx
     have HMi:Hid (MemT wi Am cm (bareO D L i).n (bareO D L i).mem):=by
      obtain ⟨A',c',h1,h2⟩:=memT_own HOm.out
      cases h1
      show MemT wi Am cm (D i).n (bareO D L i).mem
      rw [HNi.out]
      exact h2
     have HByi:Hid (Below y.heap.size y wi):=kept_low (onB HBr.out HBv.out) hK (by omega) (by omega)
     have q3:wi.cell? ⟨y.heap.size,0,none⟩=some (.slice AX i cX):=(Lib.cell_of_heap hqx 0).trans rfl
     have e0:wi.cell? ⟨wo.heap.size,0,none⟩=some (.string nm):=(Lib.cell_of_heap hqd 0).trans rfl
     have e1:wi.cell? ⟨wo.heap.size,1,none⟩=some (.int .i64 sx):=(Lib.cell_of_heap hqd 1).trans rfl
     have hyi:y.heap.size+1≤wi.heap.size:=by omega
     have HCd:Hid ([.string (bareO D L i).name,.int .i64 (bareO D L i).solve,.slice Am (bareO D L i).n cm]=[Value.string nm,.int .i64 sx,.slice Am k cm]):=by
      show [Value.string (D i).name,.int .i64 (slv D L i),.slice Am (D i).n cm]=_
      rw [HNm.out.1,HSx.out,HNi.out]
     clear hqx hOx hMx hqd hOm hK hBi hob d0 d1 d3 hsw
     go_wp2_with (at_builtin;refine wpList_append_own _ rfl _ _ 40 rfl (y.heap.size+1) 24 i0 (.agg #[.string ⟨#[]⟩,.int .i64 0,.slice none 0 0]) 3 48 Tryz.underlying40 hi0 hz0 hz1 hz2 rfl (by decide) _ _ _ rfl (HOx.out.alloc _) ⟨wi.heap.size,0,none⟩ 1 1 [.string nm,.int .i64 sx,.slice Am k cm] rfl rfl ?qf2 ?qf3 ?qf4 ?qf5 ?qf6 ?_)
     case qf2 =>
      intro j u hj
      rw [plain_addW,Lib.cell_of_heap (heap_alloc_new wi (.cells #[.string nm,.int .i64 sx,.slice Am k cm] 24))]
      simpa using hj
     case qf3=>intro u hu;simp at hu;rcases hu with rfl | rfl | rfl <;> rfl
     case qf4=>simp only [maxLen];omega
     case qf5=>omega
     case qf6=>simp;omega
     intro v' w8 hown' hgrow hnil
     obtain ⟨A8,c8,rfl⟩:=own_form hown'
     have hqn:some y.heap.size≠(Value.slice AX i cX).ownBlock:=fun e=>by have:=(HOx.out.lt _ e.symm).1;omega
     have hq8:w8.heap[y.heap.size]?=some (.cells #[.slice AX i cX] 42 (0,0)):=by
      rw [hgrow.block _ (by simp;omega) hqn,Below.heap_alloc _ _ _ (by omega)]
      exact HQx.out
     have r7:w8.cell? ⟨y.heap.size,0,none⟩=some (.slice AX i cX):=(Lib.cell_of_heap hq8 0).trans rfl
     have r8:w8.frozen? ⟨y.heap.size,0,none⟩=false:=by simp [World.frozen?,hq8]
     have HX8:Hid (XAt y.heap.size (y.heap.size+1) (bareO D L) (fun j=>if j=i then Am else AA j) (fun j=>if j=i then cm else CC j) (i+1) (w8.setCell ⟨y.heap.size,0,none⟩ (.slice A8 (i+1) c8))):=x_push (Nat.lt_succ_self _) ⟨HQx.out,HOx.out⟩ HMx.out HMi.out (by rw [HCd.out];exact hown') hgrow
     have HB8:Hid (Below y.heap.size y (w8.setCell ⟨y.heap.size,0,none⟩ (.slice A8 (i+1) c8))):=(low_grownX HByi.out (Nat.le_refl _) HOx.out (Nat.le_succ _) hgrow).setCell (Nat.le_refl _) _
     clear hown' hgrow hnil hq8 hqn e0 e1 q3 q2
     go_wp2_with fail
     go_roundg (NX-(i+1))
     case measure=>omega
     case rel=>exact ⟨i+1,_,_,by omega,rfl,by go_num,HX8,HB8⟩
  ·have hie:i=NX:=by omega
   subst hie
   obtain ⟨⟨AX,cX,hqx,hOx⟩,hMx⟩:=HX.out
   obtain ⟨A',c',h1,hDx⟩:=dims_own hOx hMx
   cases h1
   have hEx:=HEn.out.later HBw.out
   have hPx:=HP.out.later HBw.out
   have hv:=pvalue_any AX cX i (bareO D L) AA CC AE ce xs Ap cp p wo hDx hEx hPx
   have HDx:=hid_of hDx
   have HQx:=hid_of hqx
   have q3:wo.cell? ⟨y.heap.size,0,none⟩=some (.slice AX i cX):=(Lib.cell_of_heap hqx 0).trans rfl
   rw [HXl.out,HPl.out] at hv
   clear hqx hOx hMx hDx hEx hPx hob
   obtain ⟨v1,hv1⟩:∃ v,(soV (bareO D L) i (lE xs) p).1=v:=⟨_,rfl⟩
   obtain ⟨v2,hv2⟩:∃ v,(soV (bareO D L) i (lE xs) p).2=v:=⟨_,rfl⟩
   have HV:Hid ((soV (bareO D L) i (lE xs) p).1=v1∧(soV (bareO D L) i (lE xs) p).2=v2):=⟨hv1,hv2⟩
   rw [hv1,hv2] at hv
   clear hv1 hv2
   have hcs:(¬ (i:Int)<(n:Int))∨((i:Int)<(n:Int)∧¬ (i:Int)<10):=by have:=HNX.out;omega
   by_cases hE:soErr (bareO D L) i (lE xs) p=0
   case neg =>
    rw [errV_some hE] at hv
    generalize soErr (bareO D L) i (lE xs) p=E1 at hv
    clear hE
    rcases hcs with hcs | ⟨hcs,hct⟩
    all_goals
     go_wp2_with fail
     refine hv.mono ?_
     rintro e w5 ⟨rfl,hb5⟩
     have HB5:Hid (Below w.heap.size w w5):=onB HBw.out hb5
     clear hb5 hv q3 co
     go_wp2_with fail
     go_ret
     exact ⟨rfl,HB5.out.alloc HB5.out.size _⟩
   case pos =>
    obtain ⟨hEs,hpI,hbr⟩:=bare_roll hE
    rw [hE,errV_zero] at hv
    have HR:Hid (∀ w',Below wo.heap.size wo w'→Calls Tryz.prog 22 #[.agg #[.slice AX i cX],.slice AE xl ce,.slice Ap pl cp] w' fun e w''=>e=.returned (.tuple #[.agg #[.int .i64 v1,.int .i64 v2],.nilIface])∧Below w'.heap.size w' w''):=fun w' hB=>by
     have h:=rvalue_any AX cX i (bareO D L) AA CC AE ce xs Ap cp p w' hEs hpI (HDx.out.later hB) (HEn.out.later (onB HBw.out hB)) (HP.out.later (onB HBw.out hB))
     rw [←hbr,HV.out.1,HV.out.2,HXl.out,HPl.out] at h
     exact h
    clear hEs hpI hbr hE
    rcases hcs with hcs | ⟨hcs,hct⟩
    all_goals
     go_wp2_with fail
     refine hv.mono ?_
     rintro e w5 ⟨rfl,hb5⟩
     obtain ⟨y6,hy6⟩:∃ y6,w5.alloc (.cells #[.int .i64 v1,.int .i64 v2] 48)=y6:=⟨_,rfl⟩
     have hB6:Below w5.heap.size w5 y6:=by rw [←hy6];go_grown
     have g6:y6.heap[w5.heap.size]?=some (.cells #[.int .i64 v1,.int .i64 v2] 48 (0,0)):=by rw [←hy6];exact heap_alloc_new ..
     have hq6:=((onB hb5 hB6).block _ (Array.getElem?_eq_some_iff.1 HQx.out).1).trans HQx.out
     have q6:y6.cell? ⟨y.heap.size,0,none⟩=some (.slice AX i cX):=(Lib.cell_of_heap hq6 0).trans rfl
     have hr:=HR.out y6 (onB hb5 hB6)
     have HB6:Hid (Below w.heap.size w y6):=onB HBw.out (onB hb5 hB6)
     have G6:=hid_of g6
     clear hb5 hv q3 co hB6 g6 hq6 HR
     go_wp2_with fail
     refine hr.mono ?_
     rintro e w6 ⟨rfl,hb7⟩
     obtain ⟨y7,hy7⟩:∃ y7,w6.alloc (.cells #[.int .i64 v1,.int .i64 v2] 48)=y7:=⟨_,rfl⟩
     have hB7:Below w6.heap.size w6 y7:=by rw [←hy7];go_grown
     have g8:y7.heap[w6.heap.size]?=some (.cells #[.int .i64 v1,.int .i64 v2] 48 (0,0)):=by rw [←hy7];exact heap_alloc_new ..
     have g7:y7.heap[w5.heap.size]?=some (.cells #[.int .i64 v1,.int .i64 v2] 48 (0,0)):=((onB hb7 hB7).block _ (Array.getElem?_eq_some_iff.1 G6.out).1).trans G6.out
     have s0:y7.cell? ⟨w5.heap.size,0,none⟩=some (.int .i64 v1):=(Lib.cell_of_heap g7 0).trans rfl
     have s1:y7.cell? ⟨w5.heap.size,1,none⟩=some (.int .i64 v2):=(Lib.cell_of_heap g7 1).trans rfl
     have s2:y7.cell? ⟨w6.heap.size,0,none⟩=some (.int .i64 v1):=(Lib.cell_of_heap g8 0).trans rfl
     have s3:y7.cell? ⟨w6.heap.size,1,none⟩=some (.int .i64 v2):=(Lib.cell_of_heap g8 1).trans rfl
     have HB7:Hid (Below w.heap.size w y7):=onB HB6.out (onB hb7 hB7)
     clear hb7 hr q6 hy6 hB7 g8 g7
     go_wp2_with fail
     go_ret
     exact ⟨rfl,HB7.out⟩
end Go.Proofs.YtaodedckffjpgafGreatDoor
