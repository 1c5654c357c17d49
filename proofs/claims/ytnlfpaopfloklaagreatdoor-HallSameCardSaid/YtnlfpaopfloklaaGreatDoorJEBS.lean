/-
  The cells that are dirty, reckoned anew in their order (package hall): what again answers. The cells lie in a block of the caller's own, above a world in which all else lies.
-/
import Derived.Test.YtnlfpaopfloklaaGreatDoorJEBQ
import Derived.Test.YtnlfpaopfloklaaGreatDoorJEBR
namespace Go.Proofs.YtnlfpaopfloklaaGreatDoor
open Go.ChangeShapes Go.WideShapes Go.ChangeAt Go.RowKit
set_option maxRecDepth 20000
theorem ce_ne_nd:(180:Nat)≠58:=by decide
theorem ce_ne_str:(9:Nat)≠58:=by decide
theorem ce_ne_int:(3:Nat)≠58:=by decide
theorem ce_ne_way:(110:Nat)≠58:=by decide
theorem ce_ne_ax:(95:Nat)≠58:=by decide
theorem ce_ne_pl:(97:Nat)≠58:=by decide
theorem WayT.keepC {w w':World} {x:WL} (h:WayT w x) (hB:OffT 58 w w'):WayT w' x :=
 ⟨h.1.keep fun b cs fr hb=>hB b cs _ fr hb ce_ne_nd,h.2.1.keep fun b cs fr hb=>hB b cs _ fr hb ce_ne_str,h.2.2.1.keep fun b cs fr hb=>hB b cs _ fr hb ce_ne_int,h.2.2.2.keep fun b cs fr hb=>hB b cs _ fr hb ce_ne_int⟩
theorem WaysV.keepC {w w':World} {A:Option Addr} {cap:Nat} {xs:List WL} (h:WaysV w A cap xs) (hB:OffT 58 w w'):WaysV w' A cap xs:=by
 obtain ⟨h1,h2,h3⟩:=h
 refine ⟨h1,?_,fun x hx=>(h3 x hx).keepC hB⟩
 rcases h2 with h2 | ⟨b,cs,fr,h2,h4,h5⟩
 ·exact Or.inl h2
 ·exact Or.inr ⟨b,cs,fr,h2,(hB b cs _ fr h4 ce_ne_way).trans h4,h5⟩
theorem PlanV.keepC {w w':World} {q g n:Nat} {D:Nat→Dm} {X:Nat→AL} (h:PlanV w q g n D X) (hB:OffT 58 w w'):PlanV w' q g n D X:=by
 obtain ⟨h1,cur,h2,h3,h4⟩:=h
 exact ⟨(hB _ _ _ _ h1 ce_ne_pl).trans h1,cur,(hB _ _ _ _ h2 ce_ne_ax).trans h2,h3,fun i a b=>⟨(h4 i a b).1,(h4 i a b).2.1,(h4 i a b).2.2.1.keepC hB,(h4 i a b).2.2.2⟩⟩
theorem offC_set2 {w:World} {g x:Nat} {cs:Array Value} {fr:Nat×Nat} {a b:Value} (h:w.heap[g]?=some (.cells cs 58 fr)):OffT 58 w ((w.setCell ⟨g,x,none⟩ a).setCell ⟨g,x+1,none⟩ b):=offT_trans (offT_set h) (offT_set (set_ty h))
theorem findB_any (A:Option Addr) (cap:Nat) (L:List Int) (x:Int) (w:World) (hl:L.length≤3000) (hI:IntT w A cap L) (hs:L.Pairwise (· < ·)):Calls Tryz.prog 32 #[.slice A L.length cap,.int .i64 x] w fun e w'=>(∃ i:Nat,e=.returned (.tuple #[.int .i64 i,.bool (inB L x)]))∧Below w.heap.size w w':=by
 obtain ⟨-,-,h0 | ⟨b,cs,fr,rfl,-,h5⟩⟩:=hI
 ·subst h0
  refine Calls.mono (Any.slices_BinarySearch_int_empty Tryz.lays25 A cap x w) ?_
  rintro e w' ⟨rfl,rfl⟩
  exact ⟨⟨0,by simp [inB]⟩,Below.refl _ _⟩
 ·refine Calls.mono (Any.slices_BinarySearch_int Tryz.lays25 b 0 L.length cap L x w (Nat.le_refl _) (by omega) (fun j hj=>by rw [Nat.zero_add];exact h5 j hj) (by rw [List.take_length];exact hs.imp fun h=>by omega)) ?_
  rintro e w' ⟨rfl,q,rfl⟩
  rw [List.take_length]
  have:L.contains x=inB L x:=by unfold inB;rw [Bool.eq_iff_iff];simp
  rw [this]
  exact ⟨⟨_,rfl⟩,below_drewN (Below.refl _ _) _⟩
theorem keepBx {W w':World} {q:Nat} {v:Value} (h:q<W.heap.size∧W.cell? ⟨q,0,none⟩=some v) (hB:Below W.heap.size W w'):Below W.heap.size W w'∧w'.cell? ⟨q,0,none⟩=some v:=⟨hB,(hB.cell (p:=⟨q,0,none⟩) h.1).trans h.2⟩
set_option maxHeartbeats 16000000 in
theorem hagain_any (A0:Option Addr) (cap n:Nat) (D:Nat→Dm) (A:Nat→Option Addr) (C:Nat→Nat) (Ax:Option Addr) (cx:Nat) (ys:List EdL) (gC cC:Nat) (l:List En) (w0 w:World) (hr:(ruErr D n).2.2=0) (hl:Ens D n l) (h0:doE D n l (lD ys)=0) (hM:DimsV w0 A0 cap n D A C) (hX:EdsV w0 Ax cx ys) (hB:Below w0.heap.size w0 w) (hg:w0.heap.size≤gC) (hC:CelB w gC (wrTo D n (caL D n l) (lD ys) (lD ys).length)) (hcc:prodN D n≤cC) (hc9:cC≤9223372036854775807) :
  Calls Tryz.prog 15 #[.agg #[.slice A0 n cap],.slice (some ⟨gC,0,none⟩) (prodN D n) cC,.slice Ax ys.length cx] w fun e w'=>e=.returned (.tuple #[.int .i64 (doN D n l (lD ys):Nat),.nilIface])∧CelB w' gC (caL D n (doL D n l (lD ys)))∧Below w0.heap.size w0 w':=by
 have hB0:=ownOut_below w A0 n cap 24
 have hS:=ownOut_size w A0 n cap 24
 have hA:=ownOut_at w A0 n cap 24
 obtain ⟨W,hW⟩:∃ W,ownOut w A0 n cap 24=W:=⟨_,rfl⟩
 rw [hW] at hB0 hS hA
 unfold ownOut at hW
 obtain ⟨hE,hR⟩:=ru_right hr
 have hl2:=do_ens hl (lD ys)
 obtain ⟨hy60,-,-⟩:=do_all hl h0
 rw [lD_len] at hy60
 obtain ⟨dz,dl,dn⟩:=dirt_right hr hl h0
 have hgw:gC<w.heap.size:=hC.lt
 have HB0:Hid (Below w0.heap.size w0 W):=onB hB hB0
 have HBx:Hid (w.heap.size<W.heap.size∧W.cell? ⟨w.heap.size,0,none⟩=some (.slice A0 n cap)):=⟨by omega,hA⟩
 have HPl:Hid (∀ w',Below W.heap.size W w'→Calls Tryz.prog 30 #[.slice Ax ys.length cx] w' fun e w''=>(∃ A' c',e=.returned (.slice A' ys.length c')∧PlsA w'' A' c' (plD ys))∧Below w'.heap.size w' w''):=fun w' hB'=>placesof_any Ax cx ys w' hy60 (hX.later (onB HB0.out hB'))
 have HDi:Hid (∀ w' A' c',Below W.heap.size W w'→PlsA w' A' c' (plD ys)→Calls Tryz.prog 29 #[.agg #[.slice A0 n cap],.slice A' ys.length c'] w' fun e w''=>(∃ A2 c2,e=.returned (.tuple #[.slice A2 (drtL D n (numsY D n (lD ys))).length c2,.nilIface])∧IntT w'' A2 c2 (drtL D n (numsY D n (lD ys))))∧Below w'.heap.size w' w''):=fun w' A' c' hB' hP'=>by
  have h:=ndirty_t A0 cap n D A C A' c' (plD ys) w' (hM.later (onB HB0.out hB')) hP' (by rw [plD_len];omega)
  rw [plD_lP,dz,dl,errV_zero,plD_len] at h
  exact h
 have HOr:Hid (∀ w',Below W.heap.size W w'→Calls Tryz.prog 31 #[.agg #[.slice A0 n cap]] w' fun e w''=>(∃ A' c',e=.returned (.tuple #[.slice A' (prodN D n) c',.nilIface])∧IntT w'' A' c' (coL D n))∧Below w'.heap.size w' w''):=fun w' hB'=>by
  have h:=corder_t A0 cap n D A C w' (hM.later (onB HB0.out hB'))
  rw [hr,errV_zero,co_len hr] at h
  exact h
 have HNw:Hid (∀ w',Below W.heap.size W w'→Calls Tryz.prog 16 #[.agg #[.slice A0 n cap]] w' fun e w''=>(∃ q g X,e=.returned (.tuple #[.pointer (some ⟨q,0,none⟩),.nilIface])∧PlanV w'' q g n D X)∧Below w'.heap.size w' w''):=fun w' hB'=>by
  refine (new_any A0 cap n D A C w' hE hR (hM.later (onB HB0.out hB'))).mono ?_
  rintro e w'' ⟨⟨q,g,X,rfl,-,-,hP⟩,hb⟩
  exact ⟨⟨q,g,X,rfl,hP⟩,hb⟩
 have hd3:(drtL D n (numsY D n (lD ys))).length≤3000:=sel_3000 hE _
 have HFi:Hid (∀ w' A' c' (m:Nat),IntT w' A' c' (drtL D n (numsY D n (lD ys)))→Calls Tryz.prog 32 #[.slice A' (drtL D n (numsY D n (lD ys))).length c',.int .i64 m] w' fun e w''=>(∃ i:Nat,e=.returned (.tuple #[.int .i64 i,.bool (inB (drtL D n (numsY D n (lD ys))) m)]))∧Below w'.heap.size w' w''):=fun w' A' c' m h=>findB_any A' c' _ m w' hd3 h (sel_rise _ _)
 obtain ⟨-,-,hp3,-⟩:=allErr_some hE
 have HStp:Hid (∀ k L,k<prodN D n→AgS D n (doL D n l (lD ys)) (drtL D n (numsY D n (lD ys))) (coL D n) k L→∃ m:Nat,(coL D n).getD k 0=(m:Int)∧m<prodN D n∧(∀ z∈ndsX D n m,goodC (L.getD z.toNat noC))∧AgS D n (doL D n l (lD ys)) (drtL D n (numsY D n (lD ys))) (coL D n) (k+1) (L.set m (tlV D n L m))∧(inB (drtL D n (numsY D n (lD ys))) (m:Int)=false→AgS D n (doL D n l (lD ys)) (drtL D n (numsY D n (lD ys))) (coL D n) (k+1) L)∧(coL D n).take (k+1)=(coL D n).take k ++ [(m:Int)]):=fun k L hk h=>ags_step hr hl2 hk h
 have HLn:Hid (∀ k L,AgS D n (doL D n l (lD ys)) (drtL D n (numsY D n (lD ys))) (coL D n) k L→L.length=prodN D n):=fun k L h=>h.1
 have HTl:Hid (∀ qp g X L m w',PlanV w' qp g n D X→CelB w' gC L→L.length=prodN D n→m<prodN D n→(∀ z∈ndsX D n m,goodC (L.getD z.toNat noC))→Calls Tryz.prog 19 #[.pointer (some ⟨qp,0,none⟩),.slice (some ⟨gC,0,none⟩) (prodN D n) cC,.int .i64 m] w' fun e w''=>e=.returned (.tuple #[.agg #[.int .i64 (tlV D n L m).1,.int .i64 (tlV D n L m).2],.nilIface])∧Below w'.heap.size w' w''):=fun qp g X L m w' hP hC hLl hm hok=>ptell_any qp g n D X m (some ⟨gC,0,none⟩) cC L w' hR hE hm hP hLl ⟨by rw [hLl];exact hcc,hc9,Or.inr ⟨gC,0,rfl,hC.celAt⟩⟩ hok
 have HEnd:Hid (∀ L,AgS D n (doL D n l (lD ys)) (drtL D n (numsY D n (lD ys))) (coL D n) (prodN D n) L→L=caL D n (doL D n l (lD ys))):=fun L h=>ags_end hr hl2 h
 have HCn:Hid (doN D n l (lD ys)=cntD (drtL D n (numsY D n (lD ys))) (coL D n) (prodN D n)):=dn.trans (cnt_end hr).symm
 have HSt0:Hid (AgS D n (doL D n l (lD ys)) (drtL D n (numsY D n (lD ys))) (coL D n) 0 (wrTo D n (caL D n l) (lD ys) (lD ys).length)):=ags_start hr hl h0 _
 have HOl:Hid ((coL D n).length=prodN D n):=co_len hr
 have HC0:Hid (CelB W gC (wrTo D n (caL D n l) (lD ys) (lD ys).length)):=hC.later hB0
 generalize wrTo D n (caL D n l) (lD ys) (lD ys).length=L0 at HSt0 HC0
 generalize caL D n (doL D n l (lD ys))=CA at HEnd ⊢
 generalize doN D n l (lD ys)=NN at HCn ⊢
 generalize doL D n l (lD ys)=l2 at HStp HLn HEnd HSt0
 generalize drtL D n (numsY D n (lD ys))=DR at HDi HFi HStp HLn HEnd HCn HSt0
 generalize coL D n=O at HOr HStp HLn HEnd HCn HSt0 HOl
 obtain ⟨N,hN⟩:∃ N,prodN D n=N:=⟨_,rfl⟩
 rw [hN] at HOr HStp HLn HTl HEnd HCn HOl hp3 hcc ⊢
 have hNI:(N:Int)≤3000:=by omega
 have hcI:(N:Int)≤(cC:Int):=by omega
 generalize ys.length=yl at HPl HDi ⊢
 clear hM hX hB hC hB0 hS hA hE hR hl hl2 h0 hr hy60 dz dl dn hd3 hN
 go_enter Tryz.func15,Tryz.ntmps15
 go_wp2_with fail
 go_cut [8,9] from 17 (fun s8 s9 wx=>s9=.nilIface∧∃ A' c',s8=.slice A' DR.length c'∧IntT wx A' c' DR∧Below W.heap.size W wx)
 case first =>
  go_region_held3 (fun w'=>Below W.heap.size W w'∧w'.cell? ⟨w.heap.size,0,none⟩=some (.slice A0 n cap))
   ((refine keepBx HBx.out ?_;go_grown;done))
   (first
    | (go_at_call 30;refine (HPl.out _ (by go_grown)).mono ?_;rintro e wa ⟨⟨Aa,ca,rfl,hpa⟩,hba⟩;have hNa:=onB (W0:=W) (by go_grown) hba;have hsa:=hNa.size;clear hba)
    | (go_at_call 29;refine (HDi.out _ _ _ (by go_grown) (hpa.later (by go_grown))).mono ?_;rintro e wb ⟨⟨Ab,cb,rfl,hIb⟩,hbb⟩;have hNb:=onB (W0:=W) (by go_grown) hbb;have hsb:=hNb.size;clear hbb))
  all_goals go_wp2_with fail
  all_goals go_meet
  all_goals exact ⟨rfl,_,_,rfl,hIb.later (by go_grown),by go_grown⟩
 case rest =>
 clear hW
 obtain ⟨rfl,Ad,cd,rfl,hId,hBd⟩:=hcut
 obtain ⟨w1,rfl⟩:∃ wd:World,wd=wc:=⟨_,rfl⟩
 have HId:=hid_of hId
 have HB1:=hid_of hBd
 obtain ⟨x1,x2⟩:=keepBx HBx.out hBd
 have hs1:w.heap.size<w1.heap.size:=Nat.lt_of_lt_of_le HBx.out.1 hBd.size
 have ho:=HOr.out w1 hBd
 clear hId hBd x1
 go_wp2_with fail
 refine ho.mono ?_
 rintro e w2 ⟨⟨Ao,co,rfl,hIo⟩,hb2⟩
 have HIo:=hid_of hIo
 have HId2:=hid_of (HId.out.later hb2)
 have HB2:Hid (Below W.heap.size W w2):=onB HB1.out hb2
 have c2:=(hb2.cell (p:=⟨w.heap.size,0,none⟩) hs1).trans x2
 have hs2:w.heap.size<w2.heap.size:=Nat.lt_of_lt_of_le hs1 hb2.size
 have hnw:=HNw.out w2 HB2.out
 clear hIo hb2 ho x2
 go_wp2_with fail
 refine hnw.mono ?_
 rintro e w3 ⟨⟨q,g,X,rfl,hP3⟩,hb3⟩
 have HRel:Hid (CelB w3 gC L0∧PlanV w3 q g n D X∧IntT w3 Ad cd DR∧IntT w3 Ao co O∧Below w0.heap.size w0 w3):=⟨HC0.out.later (onB HB2.out hb3),hP3,HId2.out.later hb3,HIo.out.later hb3,onB HB0.out (onB HB2.out hb3)⟩
 clear hP3 hb3 hnw c2 HIo HId2 HId HNw HOr HDi HPl HC0
 go_wp2_with fail
 go_loopg [9,12,45] N (fun gg s9 s12 s45 wr => ∃ (k:Nat),k≤N∧gg=N-k∧s45=.int .i64 k∧s12=.int .i64 (cntD DR O k:Nat)∧s9=.nilIface∧Hid (∃ L,CelB wr gC L∧AgS D n l2 DR O k L)∧Hid (PlanV wr q g n D X∧IntT wr Ad cd DR∧IntT wr Ao co O∧Below w0.heap.size w0 wr))
 case atStart=>exact ⟨0,Nat.zero_le _,rfl,rfl,rfl,rfl,hid_of ⟨L0,HRel.out.1,HSt0.out⟩,hid_of HRel.out.2⟩
 case round =>
  obtain ⟨k,hk,rfl,rfl,rfl,rfl,HL,HI⟩:=hrel
  by_cases hlt:k<N
  ·have hki:(k:Int)<(N:Int):=by omega
   obtain ⟨L,hCL,hAS⟩:=HL.out
   obtain ⟨m,hm,hmN,hok,hAS2,hAS3,htk⟩:=HStp.out k L hlt hAS
   have hLl:=HLn.out k L hAS
   obtain ⟨hP,hID,hIO,hBr⟩:=HI.out
   obtain ⟨hcS,-,hS0 | ⟨bs,cs,fr,rfl,hbS,hcl⟩⟩:=id hIO
   ·have:=HOl.out;rw [hS0] at this;simp at this;omega
   have cx:=hcl k (by rw [HOl.out];exact hlt)
   have hbs:bs<wr.heap.size:=(Array.getElem?_eq_some_iff.1 hbS).1
   rw [HOl.out] at hcS
   rw [hm] at cx
   have hcSI:(N:Int)≤(co:Int):=by omega
   have hmI:(m:Int)<(N:Int):=by omega
   have hfi:=HFi.out wr Ad cd m hID
   have hck:=cntD_le DR O k
   have hckI:((cntD DR O k:Nat):Int)≤(k:Int):=by omega
   cases hin:inB DR (m:Int)
   ·have HN1:Hid (∀ w5,Below wr.heap.size wr w5→(∃ L,CelB w5 gC L∧AgS D n l2 DR O (k+1) L)∧PlanV w5 q g n D X∧IntT w5 Ad cd DR∧IntT w5 (some ⟨bs,0,none⟩) co O∧Below w0.heap.size w0 w5):=fun w5 hb5=>⟨⟨L,hCL.later hb5,hAS3 hin⟩,hP.later hb5,hID.later hb5,hIO.later hb5,onB hBr hb5⟩
    have HCt:=hid_of (cnt_miss htk hin)
    rw [hin] at hfi
    clear hcl hbS hm hok hAS hAS2 hAS3 htk hCL hP hID hIO hBr hin hLl
    generalize cntD DR O k=ck at HCt hck hckI
    go_wp2_with fail
    refine hfi.mono ?_
    rintro e w5 ⟨⟨i,rfl⟩,hb5⟩
    have HN2:=hid_of (HN1.out w5 hb5)
    clear hb5 hfi
    go_wp2_with fail
    go_roundg (N-(k+1))
    case measure=>omega
    case rel=>exact ⟨k+1,by omega,rfl,by go_num,by rw [HCt.out],rfl,hid_of HN2.out.1,hid_of HN2.out.2⟩
   ·have HCt:=hid_of (cnt_hit htk hin)
    have HAS2:=hid_of hAS2
    have HLl:=hid_of hLl
    have HN1:Hid (∀ w5,Below wr.heap.size wr w5→CelB w5 gC L∧PlanV w5 q g n D X∧IntT w5 Ad cd DR∧IntT w5 (some ⟨bs,0,none⟩) co O∧Below w0.heap.size w0 w5):=fun w5 hb5=>⟨hCL.later hb5,hP.later hb5,hID.later hb5,hIO.later hb5,onB hBr hb5⟩
    have HTc:Hid (∀ w5,Below wr.heap.size wr w5→Calls Tryz.prog 19 #[.pointer (some ⟨q,0,none⟩),.slice (some ⟨gC,0,none⟩) N cC,.int .i64 m] w5 fun e w''=>e=.returned (.tuple #[.agg #[.int .i64 (tlV D n L m).1,.int .i64 (tlV D n L m).2],.nilIface])∧Below w5.heap.size w5 w''):=fun w5 hb5=>HTl.out q g X L m w5 (hP.later hb5) (hCL.later hb5) hLl hmN hok
    rw [hin] at hfi
    clear hcl hbS hm hok hAS hAS2 hAS3 htk hCL hP hID hIO hBr hin hLl
    obtain ⟨⟨ra,rb⟩,hRe⟩:∃ R,tlV D n L m=R:=⟨_,rfl⟩
    rw [hRe] at HTc HAS2
    simp only at HTc
    clear hRe
    generalize cntD DR O k=ck at HCt hck hckI
    go_wp2_with fail
    refine hfi.mono ?_
    rintro e w5 ⟨⟨i,rfl⟩,hb5⟩
    have HB5:=hid_of hb5
    have htc:=HTc.out w5 hb5
    clear hb5 hfi
    go_wp2_with fail
    refine htc.mono ?_
    rintro e w6 ⟨rfl,hb6⟩
    obtain ⟨hC6,hP6,hI6,hO6,hB6⟩:=HN1.out w6 (onB HB5.out hb6)
    obtain ⟨r0,r1⟩:=hC6.at (k:=m) (by rw [HLl.out];exact hmN)
    have f0:=hC6.frozen (m*2)
    have f1:=hC6.frozen (m*2+1)
    have hgl:=hC6.lt
    have HC7:Hid (CelB ((w6.setCell ⟨gC,m*2,none⟩ (.int .i64 ra)).setCell ⟨gC,m*2+1,none⟩ (.int .i64 rb)) gC (L.set m (ra,rb))):=hC6.set (by rw [HLl.out];exact hmN) ra rb
    obtain ⟨cur,hcur,-⟩:=hC6
    have HR7:Hid (PlanV ((w6.setCell ⟨gC,m*2,none⟩ (.int .i64 ra)).setCell ⟨gC,m*2+1,none⟩ (.int .i64 rb)) q g n D X∧IntT ((w6.setCell ⟨gC,m*2,none⟩ (.int .i64 ra)).setCell ⟨gC,m*2+1,none⟩ (.int .i64 rb)) Ad cd DR∧IntT ((w6.setCell ⟨gC,m*2,none⟩ (.int .i64 ra)).setCell ⟨gC,m*2+1,none⟩ (.int .i64 rb)) (some ⟨bs,0,none⟩) co O∧Below w0.heap.size w0 ((w6.setCell ⟨gC,m*2,none⟩ (.int .i64 ra)).setCell ⟨gC,m*2+1,none⟩ (.int .i64 rb))):=⟨hP6.keepC (offC_set2 hcur),intT_cell hI6 hcur,intT_cell hO6 hcur,(hB6.setCell hg _).setCell hg _⟩
    clear hb6 htc hcur hP6 hI6 hO6 hB6
    go_wp2_with fail
    go_roundg (N-(k+1))
    case measure=>omega
    case rel=>exact ⟨k+1,by omega,rfl,by go_num,by rw [HCt.out];go_num,rfl,hid_of ⟨_,HC7.out,HAS2.out⟩,HR7⟩
  ·have hke:k=N:=by omega
   subst hke
   have HF:Hid (CelB wr gC CA∧Below w0.heap.size w0 wr):=by
    obtain ⟨L,hCL,hAS⟩:=HL.out
    have hLe:=HEnd.out L hAS
    rw [hLe] at hCL
    exact ⟨hCL,HI.out.2.2.2⟩
   go_wp2_with fail
   go_returns
   refine ⟨?_,HF.out⟩
   rw [HCn.out]
   rfl
end Go.Proofs.YtnlfpaopfloklaaGreatDoor
