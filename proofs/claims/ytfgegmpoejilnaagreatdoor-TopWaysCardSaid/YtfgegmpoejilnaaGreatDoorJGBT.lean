/-
  What tallylaw2.HallSame answers, called in whatever memory, of a hall whatever it is made of, if its calls tell what they should: true.
-/
import Derived.Test.YtfgegmpoejilnaaGreatDoorJGBR
import Derived.Test.YtfgegmpoejilnaaGreatDoorJGBS
namespace Go.Proofs.YtfgegmpoejilnaaGreatDoor
open Go.ChangeShapes Go.WideShapes Go.ChangeAt Go.RowKit
set_option maxRecDepth 20000
def hsW (w:World):World:=((w.alloc (.cells #[.string ⟨#[98]⟩,.int .i64 (-1),.int .i64 0,.string ⟨#[]⟩,.string ⟨#[99]⟩,.int .i64 0,.int .i64 1,.string ⟨#[]⟩] 27)).alloc (.cells #[.string ⟨#[97]⟩,.int .i64 0,.slice (some ⟨w.heap.size,0,none⟩) 2 2] 30)).alloc (.cells #[.slice (some ⟨w.heap.size+1,0,none⟩) 1 1] 24)
def HCs (HV:World→Nat→(Nat→Prop)→(Nat→Dm)→Nat→List En→Prop) (w wr:World) (h ba m:Nat) (s:Int):Prop := ∃ S l f,HV wr h S (squareD m) 2 l∧CorS m l f s∧(∀ b,S b→w.heap.size≤b)∧¬ S ba∧w.heap.size≤ba∧ValB wr ba 100 52 (fun j=>.int .i64 (f j))∧(-3000000000≤s∧s≤3000000000)∧(∀ j,0≤f j∧f j≤1000000)∧Below w.heap.size w wr
theorem ce_ne_nd:(212:Nat)≠54:=by decide
theorem ce_ne_str:(9:Nat)≠54:=by decide
theorem ce_ne_int:(3:Nat)≠54:=by decide
theorem ce_ne_way:(130:Nat)≠54:=by decide
theorem ce_ne_ax:(116:Nat)≠54:=by decide
theorem ce_ne_pl:(118:Nat)≠54:=by decide
theorem WayT.keepC {w w':World} {x:WL} (h:WayT w x) (hB:OffT 54 w w'):WayT w' x :=
 ⟨h.1.keep fun b cs fr hb=>hB b cs _ fr hb ce_ne_nd,h.2.1.keep fun b cs fr hb=>hB b cs _ fr hb ce_ne_str,h.2.2.1.keep fun b cs fr hb=>hB b cs _ fr hb ce_ne_int,h.2.2.2.keep fun b cs fr hb=>hB b cs _ fr hb ce_ne_int⟩
theorem WaysV.keepC {w w':World} {A:Option Addr} {cap:Nat} {xs:List WL} (h:WaysV w A cap xs) (hB:OffT 54 w w'):WaysV w' A cap xs:=by
 obtain ⟨h1,h2,h3⟩:=h
 refine ⟨h1,?_,fun x hx=>(h3 x hx).keepC hB⟩
 rcases h2 with h2 | ⟨b,cs,fr,h2,h4,h5⟩
 ·exact Or.inl h2
 ·exact Or.inr ⟨b,cs,fr,h2,(hB b cs _ fr h4 ce_ne_way).trans h4,h5⟩
theorem PlanV.keepC {w w':World} {q g n:Nat} {D:Nat→Dm} {X:Nat→AL} (h:PlanV w q g n D X) (hB:OffT 54 w w'):PlanV w' q g n D X:=by
 obtain ⟨h1,cur,h2,h3,h4⟩:=h
 exact ⟨(hB _ _ _ _ h1 ce_ne_pl).trans h1,cur,(hB _ _ _ _ h2 ce_ne_ax).trans h2,h3,fun i a b=>⟨(h4 i a b).1,(h4 i a b).2.1,(h4 i a b).2.2.1.keepC hB,(h4 i a b).2.2.2⟩⟩
theorem offC_set2 {w:World} {g x:Nat} {cs:Array Value} {fr:Nat×Nat} {a b:Value} (h:w.heap[g]?=some (.cells cs 54 fr)):OffT 54 w ((w.setCell ⟨g,x,none⟩ a).setCell ⟨g,x+1,none⟩ b):=offT_trans (offT_set h) (offT_set (set_ty h))
theorem findB_any (A:Option Addr) (cap:Nat) (L:List Int) (x:Int) (w:World) (hl:L.length≤3000) (hI:IntT w A cap L) (hs:L.Pairwise (· < ·)):Calls Tryz.prog 48 #[.slice A L.length cap,.int .i64 x] w fun e w'=>(∃ i:Nat,e=.returned (.tuple #[.int .i64 i,.bool (inB L x)]))∧Below w.heap.size w w':=by
 obtain ⟨-,-,h0 | ⟨b,cs,fr,rfl,-,h5⟩⟩:=hI
 ·subst h0
  refine Calls.mono (Any.slices_BinarySearch_int_empty Tryz.lays25 A cap x w) ?_
  rintro e w' ⟨rfl,rfl⟩
  exact ⟨⟨0,by simp [inB]⟩,Below.refl _ _⟩
 ·refine Calls.mono (Any.slices_BinarySearch_int Tryz.lays25 b 0 L.length cap L x w (Nat.le_refl _) (by omega) (fun j hj=>by rw [Nat.zero_add];exact h5 j hj) (by rw [List.take_length];exact hs.imp fun h=>by omega)) ?_
  rintro e w' ⟨rfl,q,rfl⟩
  rw [List.take_length]
  have:L.contains x=inB L x:=by unfold inB;rw [Bool.eq_iff_iff];simp
  rw [this]
  exact ⟨⟨_,rfl⟩,below_drewN (Below.refl _ _) _⟩
theorem keepBx {W w':World} {q:Nat} {v:Value} (h:q<W.heap.size∧W.cell? ⟨q,0,none⟩=some v) (hB:Below W.heap.size W w'):Below W.heap.size W w'∧w'.cell? ⟨q,0,none⟩=some v:=⟨hB,(hB.cell (p:=⟨q,0,none⟩) h.1).trans h.2⟩
set_option maxHeartbeats 16000000 in
theorem hagain_any (A0:Option Addr) (cap n:Nat) (D:Nat→Dm) (A:Nat→Option Addr) (C:Nat→Nat) (Ax:Option Addr) (cx:Nat) (ys:List EdL) (gC cC:Nat) (l:List En) (w0 w:World) (hr:(ruErr D n).2.2=0) (hl:Ens D n l) (h0:doE D n l (lD ys)=0) (hM:DimsV w0 A0 cap n D A C) (hX:EdsV w0 Ax cx ys) (hB:Below w0.heap.size w0 w) (hg:w0.heap.size≤gC) (hC:CelB w gC (wrTo D n (caL D n l) (lD ys) (lD ys).length)) (hcc:prodN D n≤cC) (hc9:cC≤9223372036854775807) :
  Calls Tryz.prog 25 #[.agg #[.slice A0 n cap],.slice (some ⟨gC,0,none⟩) (prodN D n) cC,.slice Ax ys.length cx] w fun e w'=>e=.returned (.tuple #[.int .i64 (doN D n l (lD ys):Nat),.nilIface])∧CelB w' gC (caL D n (doL D n l (lD ys)))∧Below w0.heap.size w0 w':=by
 have hB0:=ownOut_below w A0 n cap 24
 have hS:=ownOut_size w A0 n cap 24
 have hA:=ownOut_at w A0 n cap 24
 obtain ⟨W,hW⟩:∃ W,ownOut w A0 n cap 24=W:=⟨_,rfl⟩
 rw [hW] at hB0 hS hA
 unfold ownOut at hW
 obtain ⟨hE,hR⟩:=ru_right hr
 have hl2:=do_ens hl (lD ys)
 obtain ⟨hy60,-,-⟩:=do_all hl h0
 rw [lD_len] at hy60
 obtain ⟨dz,dl,dn⟩:=dirt_right hr hl h0
 have hgw:gC<w.heap.size:=hC.lt
 have HB0:Hid (Below w0.heap.size w0 W):=onB hB hB0
 have HBx:Hid (w.heap.size<W.heap.size∧W.cell? ⟨w.heap.size,0,none⟩=some (.slice A0 n cap)):=⟨by omega,hA⟩
 have HPl:Hid (∀ w',Below W.heap.size W w'→Calls Tryz.prog 46 #[.slice Ax ys.length cx] w' fun e w''=>(∃ A' c',e=.returned (.slice A' ys.length c')∧PlsA w'' A' c' (plD ys))∧Below w'.heap.size w' w''):=fun w' hB'=>placesof_any Ax cx ys w' hy60 (hX.later (onB HB0.out hB'))
 have HDi:Hid (∀ w' A' c',Below W.heap.size W w'→PlsA w' A' c' (plD ys)→Calls Tryz.prog 45 #[.agg #[.slice A0 n cap],.slice A' ys.length c'] w' fun e w''=>(∃ A2 c2,e=.returned (.tuple #[.slice A2 (drtL D n (numsY D n (lD ys))).length c2,.nilIface])∧IntT w'' A2 c2 (drtL D n (numsY D n (lD ys))))∧Below w'.heap.size w' w''):=fun w' A' c' hB' hP'=>by
  have h:=ndirty_t A0 cap n D A C A' c' (plD ys) w' (hM.later (onB HB0.out hB')) hP' (by rw [plD_len];omega)
  rw [plD_lP,dz,dl,errV_zero,plD_len] at h
  exact h
 have HOr:Hid (∀ w',Below W.heap.size W w'→Calls Tryz.prog 47 #[.agg #[.slice A0 n cap]] w' fun e w''=>(∃ A' c',e=.returned (.tuple #[.slice A' (prodN D n) c',.nilIface])∧IntT w'' A' c' (coL D n))∧Below w'.heap.size w' w''):=fun w' hB'=>by
  have h:=corder_t A0 cap n D A C w' (hM.later (onB HB0.out hB'))
  rw [hr,errV_zero,co_len hr] at h
  exact h
 have HNw:Hid (∀ w',Below W.heap.size W w'→Calls Tryz.prog 26 #[.agg #[.slice A0 n cap]] w' fun e w''=>(∃ q g X,e=.returned (.tuple #[.pointer (some ⟨q,0,none⟩),.nilIface])∧PlanV w'' q g n D X)∧Below w'.heap.size w' w''):=fun w' hB'=>by
  refine (new_any A0 cap n D A C w' hE hR (hM.later (onB HB0.out hB'))).mono ?_
  rintro e w'' ⟨⟨q,g,X,rfl,-,-,hP⟩,hb⟩
  exact ⟨⟨q,g,X,rfl,hP⟩,hb⟩
 have hd3:(drtL D n (numsY D n (lD ys))).length≤3000:=sel_3000 hE _
 have HFi:Hid (∀ w' A' c' (m:Nat),IntT w' A' c' (drtL D n (numsY D n (lD ys)))→Calls Tryz.prog 48 #[.slice A' (drtL D n (numsY D n (lD ys))).length c',.int .i64 m] w' fun e w''=>(∃ i:Nat,e=.returned (.tuple #[.int .i64 i,.bool (inB (drtL D n (numsY D n (lD ys))) m)]))∧Below w'.heap.size w' w''):=fun w' A' c' m h=>findB_any A' c' _ m w' hd3 h (sel_rise _ _)
 obtain ⟨-,-,hp3,-⟩:=allErr_some hE
 have HStp:Hid (∀ k L,k<prodN D n→AgS D n (doL D n l (lD ys)) (drtL D n (numsY D n (lD ys))) (coL D n) k L→∃ m:Nat,(coL D n).getD k 0=(m:Int)∧m<prodN D n∧(∀ z∈ndsX D n m,goodC (L.getD z.toNat noC))∧AgS D n (doL D n l (lD ys)) (drtL D n (numsY D n (lD ys))) (coL D n) (k+1) (L.set m (tlV D n L m))∧(inB (drtL D n (numsY D n (lD ys))) (m:Int)=false→AgS D n (doL D n l (lD ys)) (drtL D n (numsY D n (lD ys))) (coL D n) (k+1) L)∧(coL D n).take (k+1)=(coL D n).take k ++ [(m:Int)]):=fun k L hk h=>ags_step hr hl2 hk h
 have HLn:Hid (∀ k L,AgS D n (doL D n l (lD ys)) (drtL D n (numsY D n (lD ys))) (coL D n) k L→L.length=prodN D n):=fun k L h=>h.1
 have HTl:Hid (∀ qp g X L m w',PlanV w' qp g n D X→CelB w' gC L→L.length=prodN D n→m<prodN D n→(∀ z∈ndsX D n m,goodC (L.getD z.toNat noC))→Calls Tryz.prog 29 #[.pointer (some ⟨qp,0,none⟩),.slice (some ⟨gC,0,none⟩) (prodN D n) cC,.int .i64 m] w' fun e w''=>e=.returned (.tuple #[.agg #[.int .i64 (tlV D n L m).1,.int .i64 (tlV D n L m).2],.nilIface])∧Below w'.heap.size w' w''):=fun qp g X L m w' hP hC hLl hm hok=>ptell_any qp g n D X m (some ⟨gC,0,none⟩) cC L w' hR hE hm hP hLl ⟨by rw [hLl];exact hcc,hc9,Or.inr ⟨gC,0,rfl,hC.celAt⟩⟩ hok
 have HEnd:Hid (∀ L,AgS D n (doL D n l (lD ys)) (drtL D n (numsY D n (lD ys))) (coL D n) (prodN D n) L→L=caL D n (doL D n l (lD ys))):=fun L h=>ags_end hr hl2 h
 have HCn:Hid (doN D n l (lD ys)=cntD (drtL D n (numsY D n (lD ys))) (coL D n) (prodN D n)):=dn.trans (cnt_end hr).symm
 have HSt0:Hid (AgS D n (doL D n l (lD ys)) (drtL D n (numsY D n (lD ys))) (coL D n) 0 (wrTo D n (caL D n l) (lD ys) (lD ys).length)):=ags_start hr hl h0 _
 have HOl:Hid ((coL D n).length=prodN D n):=co_len hr
 have HC0:Hid (CelB W gC (wrTo D n (caL D n l) (lD ys) (lD ys).length)):=hC.later hB0
 generalize wrTo D n (caL D n l) (lD ys) (lD ys).length=L0 at HSt0 HC0
 generalize caL D n (doL D n l (lD ys))=CA at HEnd ⊢
 generalize doN D n l (lD ys)=NN at HCn ⊢
 generalize doL D n l (lD ys)=l2 at HStp HLn HEnd HSt0
 generalize drtL D n (numsY D n (lD ys))=DR at HDi HFi HStp HLn HEnd HCn HSt0
 generalize coL D n=O at HOr HStp HLn HEnd HCn HSt0 HOl
 obtain ⟨N,hN⟩:∃ N,prodN D n=N:=⟨_,rfl⟩
 rw [hN] at HOr HStp HLn HTl HEnd HCn HOl hp3 hcc ⊢
 have hNI:(N:Int)≤3000:=by omega
 have hcI:(N:Int)≤(cC:Int):=by omega
 generalize ys.length=yl at HPl HDi ⊢
 clear hM hX hB hC hB0 hS hA hE hR hl hl2 h0 hr hy60 dz dl dn hd3 hN
 go_enter Tryz.func25,Tryz.ntmps25
 go_wp2_with fail
 go_cut [8,9] from 17 (fun s8 s9 wx=>s9=.nilIface∧∃ A' c',s8=.slice A' DR.length c'∧IntT wx A' c' DR∧Below W.heap.size W wx)
 case first =>
  go_region_held3 (fun w'=>Below W.heap.size W w'∧w'.cell? ⟨w.heap.size,0,none⟩=some (.slice A0 n cap))
   ((refine keepBx HBx.out ?_;go_grown;done))
   (first
    | (go_at_call 46;refine (HPl.out _ (by go_grown)).mono ?_;rintro e wa ⟨⟨Aa,ca,rfl,hpa⟩,hba⟩;have hNa:=onB (W0:=W) (by go_grown) hba;have hsa:=hNa.size;clear hba)
    | (go_at_call 45;refine (HDi.out _ _ _ (by go_grown) (hpa.later (by go_grown))).mono ?_;rintro e wb ⟨⟨Ab,cb,rfl,hIb⟩,hbb⟩;have hNb:=onB (W0:=W) (by go_grown) hbb;have hsb:=hNb.size;clear hbb))
  all_goals go_wp2_with fail
  all_goals go_meet
  all_goals exact ⟨rfl,_,_,rfl,hIb.later (by go_grown),by go_grown⟩
 case rest =>
 clear hW
 obtain ⟨rfl,Ad,cd,rfl,hId,hBd⟩:=hcut
 obtain ⟨w1,rfl⟩:∃ wd:World,wd=wc:=⟨_,rfl⟩
 have HId:=hid_of hId
 have HB1:=hid_of hBd
 obtain ⟨x1,x2⟩:=keepBx HBx.out hBd
 have hs1:w.heap.size<w1.heap.size:=Nat.lt_of_lt_of_le HBx.out.1 hBd.size
 have ho:=HOr.out w1 hBd
 clear hId hBd x1
 go_wp2_with fail
 refine ho.mono ?_
 rintro e w2 ⟨⟨Ao,co,rfl,hIo⟩,hb2⟩
 have HIo:=hid_of hIo
 have HId2:=hid_of (HId.out.later hb2)
 have HB2:Hid (Below W.heap.size W w2):=onB HB1.out hb2
 have c2:=(hb2.cell (p:=⟨w.heap.size,0,none⟩) hs1).trans x2
 have hs2:w.heap.size<w2.heap.size:=Nat.lt_of_lt_of_le hs1 hb2.size
 have hnw:=HNw.out w2 HB2.out
 clear hIo hb2 ho x2
 go_wp2_with fail
 refine hnw.mono ?_
 rintro e w3 ⟨⟨q,g,X,rfl,hP3⟩,hb3⟩
 have HRel:Hid (CelB w3 gC L0∧PlanV w3 q g n D X∧IntT w3 Ad cd DR∧IntT w3 Ao co O∧Below w0.heap.size w0 w3):=⟨HC0.out.later (onB HB2.out hb3),hP3,HId2.out.later hb3,HIo.out.later hb3,onB HB0.out (onB HB2.out hb3)⟩
 clear hP3 hb3 hnw c2 HIo HId2 HId HNw HOr HDi HPl HC0
 go_wp2_with fail
 go_loopg [9,12,45] N (fun gg s9 s12 s45 wr => ∃ (k:Nat),k≤N∧gg=N-k∧s45=.int .i64 k∧s12=.int .i64 (cntD DR O k:Nat)∧s9=.nilIface∧Hid (∃ L,CelB wr gC L∧AgS D n l2 DR O k L)∧Hid (PlanV wr q g n D X∧IntT wr Ad cd DR∧IntT wr Ao co O∧Below w0.heap.size w0 wr))
 case atStart=>exact ⟨0,Nat.zero_le _,rfl,rfl,rfl,rfl,hid_of ⟨L0,HRel.out.1,HSt0.out⟩,hid_of HRel.out.2⟩
 case round =>
  obtain ⟨k,hk,rfl,rfl,rfl,rfl,HL,HI⟩:=hrel
  by_cases hlt:k<N
  ·have hki:(k:Int)<(N:Int):=by omega
   obtain ⟨L,hCL,hAS⟩:=HL.out
   obtain ⟨m,hm,hmN,hok,hAS2,hAS3,htk⟩:=HStp.out k L hlt hAS
   have hLl:=HLn.out k L hAS
   obtain ⟨hP,hID,hIO,hBr⟩:=HI.out
   obtain ⟨hcS,-,hS0 | ⟨bs,cs,fr,rfl,hbS,hcl⟩⟩:=id hIO
   ·have:=HOl.out;rw [hS0] at this;simp at this;omega
   have cx:=hcl k (by rw [HOl.out];exact hlt)
   have hbs:bs<wr.heap.size:=(Array.getElem?_eq_some_iff.1 hbS).1
   rw [HOl.out] at hcS
   rw [hm] at cx
   have hcSI:(N:Int)≤(co:Int):=by omega
   have hmI:(m:Int)<(N:Int):=by omega
   have hfi:=HFi.out wr Ad cd m hID
   have hck:=cntD_le DR O k
   have hckI:((cntD DR O k:Nat):Int)≤(k:Int):=by omega
   cases hin:inB DR (m:Int)
   ·have HN1:Hid (∀ w5,Below wr.heap.size wr w5→(∃ L,CelB w5 gC L∧AgS D n l2 DR O (k+1) L)∧PlanV w5 q g n D X∧IntT w5 Ad cd DR∧IntT w5 (some ⟨bs,0,none⟩) co O∧Below w0.heap.size w0 w5):=fun w5 hb5=>⟨⟨L,hCL.later hb5,hAS3 hin⟩,hP.later hb5,hID.later hb5,hIO.later hb5,onB hBr hb5⟩
    have HCt:=hid_of (cnt_miss htk hin)
    rw [hin] at hfi
    clear hcl hbS hm hok hAS hAS2 hAS3 htk hCL hP hID hIO hBr hin hLl
    generalize cntD DR O k=ck at HCt hck hckI
    go_wp2_with fail
    refine hfi.mono ?_
    rintro e w5 ⟨⟨i,rfl⟩,hb5⟩
    have HN2:=hid_of (HN1.out w5 hb5)
    clear hb5 hfi
    go_wp2_with fail
    go_roundg (N-(k+1))
    case measure=>omega
    case rel=>exact ⟨k+1,by omega,rfl,by go_num,by rw [HCt.out],rfl,hid_of HN2.out.1,hid_of HN2.out.2⟩
   ·have HCt:=hid_of (cnt_hit htk hin)
    have HAS2:=hid_of hAS2
    have HLl:=hid_of hLl
    have HN1:Hid (∀ w5,Below wr.heap.size wr w5→CelB w5 gC L∧PlanV w5 q g n D X∧IntT w5 Ad cd DR∧IntT w5 (some ⟨bs,0,none⟩) co O∧Below w0.heap.size w0 w5):=fun w5 hb5=>⟨hCL.later hb5,hP.later hb5,hID.later hb5,hIO.later hb5,onB hBr hb5⟩
    have HTc:Hid (∀ w5,Below wr.heap.size wr w5→Calls Tryz.prog 29 #[.pointer (some ⟨q,0,none⟩),.slice (some ⟨gC,0,none⟩) N cC,.int .i64 m] w5 fun e w''=>e=.returned (.tuple #[.agg #[.int .i64 (tlV D n L m).1,.int .i64 (tlV D n L m).2],.nilIface])∧Below w5.heap.size w5 w''):=fun w5 hb5=>HTl.out q g X L m w5 (hP.later hb5) (hCL.later hb5) hLl hmN hok
    rw [hin] at hfi
    clear hcl hbS hm hok hAS hAS2 hAS3 htk hCL hP hID hIO hBr hin hLl
    obtain ⟨⟨ra,rb⟩,hRe⟩:∃ R,tlV D n L m=R:=⟨_,rfl⟩
    rw [hRe] at HTc HAS2
    simp only at HTc
    clear hRe
    generalize cntD DR O k=ck at HCt hck hckI
    go_wp2_with fail
    refine hfi.mono ?_
    rintro e w5 ⟨⟨i,rfl⟩,hb5⟩
    have HB5:=hid_of hb5
    have htc:=HTc.out w5 hb5
    clear hb5 hfi
    go_wp2_with fail
    refine htc.mono ?_
    rintro e w6 ⟨rfl,hb6⟩
    obtain ⟨hC6,hP6,hI6,hO6,hB6⟩:=HN1.out w6 (onB HB5.out hb6)
    obtain ⟨r0,r1⟩:=hC6.at (k:=m) (by rw [HLl.out];exact hmN)
    have f0:=hC6.frozen (m*2)
    have f1:=hC6.frozen (m*2+1)
    have hgl:=hC6.lt
    have HC7:Hid (CelB ((w6.setCell ⟨gC,m*2,none⟩ (.int .i64 ra)).setCell ⟨gC,m*2+1,none⟩ (.int .i64 rb)) gC (L.set m (ra,rb))):=hC6.set (by rw [HLl.out];exact hmN) ra rb
    obtain ⟨cur,hcur,-⟩:=hC6
    have HR7:Hid (PlanV ((w6.setCell ⟨gC,m*2,none⟩ (.int .i64 ra)).setCell ⟨gC,m*2+1,none⟩ (.int .i64 rb)) q g n D X∧IntT ((w6.setCell ⟨gC,m*2,none⟩ (.int .i64 ra)).setCell ⟨gC,m*2+1,none⟩ (.int .i64 rb)) Ad cd DR∧IntT ((w6.setCell ⟨gC,m*2,none⟩ (.int .i64 ra)).setCell ⟨gC,m*2+1,none⟩ (.int .i64 rb)) (some ⟨bs,0,none⟩) co O∧Below w0.heap.size w0 ((w6.setCell ⟨gC,m*2,none⟩ (.int .i64 ra)).setCell ⟨gC,m*2+1,none⟩ (.int .i64 rb))):=⟨hP6.keepC (offC_set2 hcur),intT_cell hI6 hcur,intT_cell hO6 hcur,(hB6.setCell hg _).setCell hg _⟩
    clear hb6 htc hcur hP6 hI6 hO6 hB6
    go_wp2_with fail
    go_roundg (N-(k+1))
    case measure=>omega
    case rel=>exact ⟨k+1,by omega,rfl,by go_num,by rw [HCt.out];go_num,rfl,hid_of ⟨_,HC7.out,HAS2.out⟩,HR7⟩
  ·have hke:k=N:=by omega
   subst hke
   have HF:Hid (CelB wr gC CA∧Below w0.heap.size w0 wr):=by
    obtain ⟨L,hCL,hAS⟩:=HL.out
    have hLe:=HEnd.out L hAS
    rw [hLe] at hCL
    exact ⟨hCL,HI.out.2.2.2⟩
   go_wp2_with fail
   go_returns
   refine ⟨?_,HF.out⟩
   rw [HCn.out]
   rfl
theorem CelAt.same {w w':World} {b o:Nat} {L:List (Int×Int)} (h:CelAt w b o L) (hs:w.heap.size≤w'.heap.size) (hb:w'.heap[b]?=w.heap[b]?):CelAt w' b o L :=
 ⟨Nat.lt_of_lt_of_le h.1 hs,fun k hk=>⟨(World.cell?_of_block (a:=⟨b,o+k*2,none⟩) hb).trans (h.2 k hk).1,(World.cell?_of_block (a:=⟨b,o+k*2+1,none⟩) hb).trans (h.2 k hk).2⟩⟩
theorem PlAt.frame {w w':World} {N:Nat} {A:Option Addr} {c:Nat} {L:List Int} (h:PlAt w A c L) (hn:NewA N A) (hs:w.heap.size≤w'.heap.size) (hb:∀ b,N≤b→b<w.heap.size→w'.heap[b]?=w.heap[b]?):PlAt w' A c L:=by
 obtain ⟨h1,h2 | ⟨b,o,h2,h3,h4⟩⟩:=h
 ·exact ⟨h1,Or.inl h2⟩
 ·exact ⟨h1,Or.inr ⟨b,o,h2,Nat.lt_of_lt_of_le h3 hs,fun j hj=>(World.cell?_of_block (a:=⟨b,o+j,none⟩) (hb b (hn b o h2) h3)).trans (h4 j hj)⟩⟩
theorem EnsV.frame {w w':World} {N:Nat} {A:Option Addr} {c:Nat} {xs:List EnL} (h:EnsV w A c xs) (hn:NewA N A) (hx:NewE N xs) (hs:w.heap.size≤w'.heap.size) (hb:∀ b,N≤b→b<w.heap.size→w'.heap[b]?=w.heap[b]?):EnsV w' A c xs:=by
 obtain ⟨h1,h0,h2 | ⟨b,o,h2,h3,h4,h5⟩⟩:=h
 ·exact ⟨h1,h0,Or.inl h2⟩
 ·exact ⟨h1,h0,Or.inr ⟨b,o,h2,Nat.lt_of_lt_of_le h3 hs,fun j u hj=>(World.cell?_of_block (a:=⟨b,o+j,none⟩) (hb b (hn b o h2) h3)).trans (h4 j u hj),fun x hxm=>(h5 x hxm).frame (hx x hxm) hs hb⟩⟩
theorem DimsO.frame {w w':World} {N g n:Nat} {D:Nat→Dm} {G C:Nat→Nat} (h:DimsO w N g n D G C) (hb:∀ b,N≤b→b<w.heap.size→w'.heap[b]?=w.heap[b]?):DimsO w' N g n D G C :=
 ⟨h.1,h.2.1.same (hb _ h.1 h.2.1.lt),fun i hi=>⟨(h.2.2 i hi).1,(h.2.2 i hi).2.1,(h.2.2 i hi).2.2.same (hb _ (h.2.2 i hi).1 (h.2.2 i hi).2.2.lt)⟩⟩
def HV (w:World) (h:Nat) (S:Nat→Prop) (D:Nat→Dm) (n:Nat) (l:List En):Prop :=
 (∀ b,S b→b<w.heap.size)∧((ruErr D n).2.2=0∧Ens D n l)∧S h∧∃ (A0:Option Addr) (co:Nat) (A:Nat→Option Addr) (C:Nat→Nat) (Ae:Option Addr) (ce:Nat) (zs:List EnL) (gc oc cc:Nat),
  w.heap[h]?=some (.cells #[.slice A0 n co,.slice Ae zs.length ce,.slice (some ⟨gc,oc,none⟩) (prodN D n) cc] 68 (0,0))∧lE zs=l∧prodN D n≤cc∧cc≤9223372036854775807 ∧
  ∀ w',w.heap.size≤w'.heap.size→(∀ b,S b→b≠h→w'.heap[b]?=w.heap[b]?)→DimsV w' A0 co n D A C∧EnsV w' Ae ce zs∧CelAt w' gc oc (caL D n l)
theorem HV.keep {w w':World} {h:Nat} {S:Nat→Prop} {D:Nat→Dm} {n:Nat} {l:List En} (H:HV w h S D n l) (hs:w.heap.size≤w'.heap.size) (hb:∀ b,S b→w'.heap[b]?=w.heap[b]?):HV w' h S D n l:=by
 obtain ⟨h1,h2,h3,A0,co,A,C,Ae,ce,zs,gc,oc,cc,h4,h5,h6,h7,h8⟩:=H
 exact ⟨fun b hS=>Nat.lt_of_lt_of_le (h1 b hS) hs,h2,h3,A0,co,A,C,Ae,ce,zs,gc,oc,cc,(hb h h3).trans h4,h5,h6,h7,fun w2 hs2 hb2=>h8 w2 (Nat.le_trans hs hs2) fun b hS hne=>(hb2 b hS hne).trans (hb b hS)⟩
set_option maxHeartbeats 4000000 in
theorem hall_bad (A0:Option Addr) (cap n:Nat) (D:Nat→Dm) (A:Nat→Option Addr) (C:Nat→Nat) (w:World) (he:(ruErr D n).2.2≠0) (hM:DimsV w A0 cap n D A C) :
  Calls Tryz.prog 6 #[.agg #[.slice A0 n cap]] w fun e w'=>e=.returned (.tuple #[.pointer none,errV (ruErr D n).2.2])∧Below w.heap.size w w':=by
 have hB0:=ownOut_below w A0 n cap 24
 have hA:=ownOut_at w A0 n cap 24
 have hal:=call_any A0 cap n D A C none 0 [] (ownOut w A0 n cap 24) (hM.later hB0) (EnsV.nil _ _ _ (by omega))
 have hcu:cuErr D n (lE [])=(ruErr D n).2.2:=by unfold cuErr;rw [if_pos he]
 rw [hcu,caL_bad (by rw [hcu];exact he),errV_some he] at hal
 rw [errV_some he]
 simp only [List.length_nil] at hal
 obtain ⟨W,hW⟩:∃ W,ownOut w A0 n cap 24=W:=⟨_,rfl⟩
 rw [hW] at hB0 hA hal
 unfold ownOut at hW
 have HB0:Hid (Below w.heap.size w W):=hB0
 generalize (ruErr D n).2.2=z at hal ⊢
 clear hM hB0 he hcu
 go_enter Tryz.func6,Tryz.ntmps6
 go_wp2_with fail
 refine hal.mono ?_
 rintro e w1 ⟨⟨A1,c1,rfl,-⟩,hb1⟩
 have HB1:Hid (Below w.heap.size w w1):=onB HB0.out hb1
 clear hb1 hal
 go_wp2_with fail
 go_returns
 exact ⟨rfl,HB1.out⟩
set_option maxHeartbeats 8000000 in
theorem hall_new (A0:Option Addr) (cap n:Nat) (D:Nat→Dm) (A:Nat→Option Addr) (C:Nat→Nat) (w:World) (hr:(ruErr D n).2.2=0) (hM:DimsV w A0 cap n D A C) :
  Calls Tryz.prog 6 #[.agg #[.slice A0 n cap]] w fun e w'=>(∃ h S,e=.returned (.tuple #[.pointer (some ⟨h,0,none⟩),.nilIface])∧HV w' h S D n []∧∀ b,S b→w.heap.size≤b)∧Below w.heap.size w w':=by
 obtain ⟨hE,hR⟩:=ru_right hr
 have hEs:Ens D n []:=⟨hE,fun e he=>(by cases he),List.Pairwise.nil⟩
 have hcu:=cu_right hr hEs
 have hB0:=ownOut_below w A0 n cap 24
 have hS:=ownOut_size w A0 n cap 24
 have hA:=ownOut_at w A0 n cap 24
 have hal:=call_new A0 cap n D A C none 0 [] (ownOut w A0 n cap 24) (hM.later hB0) (EnsV.nil _ _ _ (by omega))
 rw [show lE ([]:List EnL)=[] from rfl,hcu,errV_zero,caL_len hcu] at hal
 simp only [List.length_nil] at hal
 obtain ⟨hn1,hn4,hp3,hd⟩:=allErr_some hE
 have hpos:1≤prodN D n:=prodN_pos fun i hi=>(hd i hi).1
 have HFr:Hid (∀ w',Below w.heap.size w w'→Calls Tryz.prog 21 #[.agg #[.slice A0 n cap]] w' fun e w''=>(∃ g c G C',e=.returned (.agg #[.slice (some ⟨g,0,none⟩) n c])∧n≤c∧DimsO w'' w'.heap.size g n D G C')∧Below w'.heap.size w' w''):=fun w' hB=>ofresh_any A0 cap n D A C w' hE (hM.later hB)
 have HEnd:Hid (∀ (w1 w2:World) (g c:Nat) (G C':Nat→Nat) (A1:Option Addr) (c1:Nat),Below w.heap.size w w1→CelV w1 A1 c1 (caL D n [])→NewA w.heap.size A1→Below w1.heap.size w1 w2→n≤c→DimsO w2 w1.heap.size g n D G C'→∃ S,HV (w2.alloc (.cells #[.slice (some ⟨g,0,none⟩) n c,.slice none 0 0,.slice A1 (prodN D n) c1] 68)) w2.heap.size S D n []∧∀ b,S b→w.heap.size≤b):=fun w1 w2 g c G C' A1 c1 hb1 hC hN hb2 hc hO=>by
  obtain ⟨q1,q2,q3 | ⟨gc,oc,rfl,q4⟩⟩:=hC
  ·have:=caL_len hcu;rw [q3] at this;simp at this;omega
  rw [caL_len hcu] at q1
  have hsz:(w2.alloc (.cells #[.slice (some ⟨g,0,none⟩) n c,.slice none 0 0,.slice (some ⟨gc,oc,none⟩) (prodN D n) c1] 68)).heap.size=w2.heap.size+1:=by simp
  refine ⟨fun b=>w.heap.size≤b∧b<w2.heap.size+1,⟨fun b hb=>by rw [hsz];exact hb.2,⟨hr,hEs⟩,⟨(onB hb1 hb2).size,by omega⟩,some ⟨g,0,none⟩,c,(fun i=>some ⟨G i,0,none⟩),C',none,0,[],gc,oc,c1,heap_alloc_new ..,rfl,q1,q2,fun w' hs hb=>?_⟩,fun b hb=>hb.1⟩
  have hag:∀ b,w.heap.size≤b→b<w2.heap.size→w'.heap[b]?=w2.heap[b]?:=fun b hb1 hb2=>(hb b ⟨hb1,by omega⟩ (by omega)).trans (Below.heap_alloc _ _ _ hb2)
  rw [hsz] at hs
  have hO2:=hO.frame (w':=w') fun b hb3 hb4=>hag b (Nat.le_trans hb1.size hb3) hb4
  refine ⟨⟨hc,Or.inr ⟨g,0,rfl,hO2.dims⟩⟩,EnsV.nil _ _ _ (by omega),?_⟩
  exact (q4.later hb2).same (by omega) (hag gc (hN gc oc rfl) (q4.later hb2).1)
 obtain ⟨W,hW⟩:∃ W,ownOut w A0 n cap 24=W:=⟨_,rfl⟩
 rw [hW] at hB0 hA hS hal
 unfold ownOut at hW
 have HB0:Hid (Below w.heap.size w W):=hB0
 have hsz:w.heap.size<W.heap.size:=by omega
 generalize caL D n []=CL at hal HEnd
 generalize prodN D n=N at hal HEnd
 clear hM hB0 hr hE hR hEs hcu hd hp3 hpos hS
 go_enter Tryz.func6,Tryz.ntmps6
 go_wp2_with fail
 refine hal.mono ?_
 rintro e w1 ⟨⟨A1,c1,rfl,hC1,hN1⟩,hb1⟩
 have HB1:Hid (Below w.heap.size w w1):=onB HB0.out hb1
 have HC1:=hid_of hC1
 have HN1:Hid (NewA w.heap.size A1):=hN1.le (Nat.le_of_lt hsz)
 have x1:=(hb1.cell (p:=⟨w.heap.size,0,none⟩) hsz).trans hA
 have hs1:w.heap.size<w1.heap.size:=Nat.lt_of_lt_of_le hsz hb1.size
 have hfr:=HFr.out w1 HB1.out
 clear hb1 hal hC1 hN1 hA hW
 go_wp2_with fail
 refine hfr.mono ?_
 rintro e w2 ⟨⟨g,c,G,C',rfl,hc,hO⟩,hb2⟩
 have HB2:Hid (Below w1.heap.size w1 w2):=hb2
 have HO:=hid_of hO
 clear hb2 hO hfr
 go_wp2_with fail
 go_returns
 obtain ⟨S,hH,hS⟩:=HEnd.out w1 w2 g c G C' A1 c1 HB1.out HC1.out HN1.out HB2.out hc HO.out
 exact ⟨⟨_,S,rfl,hH,hS⟩,onB HB1.out (onB HB2.out (by go_grown))⟩
section
variable {w:World} {h:Nat} {S:Nat→Prop} {D:Nat→Dm} {n:Nat} {l:List En}
theorem HV.parts (H:HV w h S D n l):∃ (A0:Option Addr) (co:Nat) (A:Nat→Option Addr) (C:Nat→Nat) (Ae:Option Addr) (ce:Nat) (zs:List EnL) (gc oc cc:Nat),h<w.heap.size∧(w.cell? ⟨h,0,none⟩=some (.slice A0 n co)∧w.cell? ⟨h,1,none⟩=some (.slice Ae zs.length ce)∧w.cell? ⟨h,2,none⟩=some (.slice (some ⟨gc,oc,none⟩) (prodN D n) cc))∧lE zs=l∧prodN D n≤cc∧cc≤9223372036854775807∧DimsV w A0 co n D A C∧EnsV w Ae ce zs∧CelAt w gc oc (caL D n l):=by
 obtain ⟨h1,h2,h3,A0,co,A,C,Ae,ce,zs,gc,oc,cc,h4,h5,h6,h7,h8⟩:=H
 obtain ⟨a,b,c⟩:=h8 w (Nat.le_refl _) fun _ _ _=>rfl
 exact ⟨A0,co,A,C,Ae,ce,zs,gc,oc,cc,h1 h h3,⟨(Lib.cell_of_heap h4 0).trans rfl,(Lib.cell_of_heap h4 1).trans rfl,(Lib.cell_of_heap h4 2).trans rfl⟩,h5,h6,h7,a,b,c⟩
theorem HV.sizes (H:HV w h S D n l):(allErr D n).2.2=0∧(caL D n l).length=prodN D n∧1≤prodN D n∧prodN D n≤3000:=by
 obtain ⟨hE,hR⟩:=ru_right H.2.1.1
 obtain ⟨hn1,hn4,hp3,hd⟩:=allErr_some hE
 exact ⟨hE,caL_len (cu_right H.2.1.1 H.2.1.2),prodN_pos fun i hi=>(hd i hi).1,hp3⟩
end
set_option maxHeartbeats 4000000 in
theorem hall_cells (h:Nat) (S:Nat→Prop) (D:Nat→Dm) (n:Nat) (l:List En) (w:World) (H:HV w h S D n l) :
  Calls Tryz.prog 8 #[.pointer (some ⟨h,0,none⟩)] w fun e w'=>(∃ A' c',e=.returned (.slice A' (caL D n l).length c')∧CelV w' A' c' (caL D n l))∧Below w.heap.size w w':=by
 obtain ⟨A0,co,A,C,Ae,ce,zs,gc,oc,cc,hh,⟨-,-,c2⟩,-,-,-,-,-,hC⟩:=H.parts
 obtain ⟨-,hl,hp1,hp3⟩:=H.sizes
 have hcl:=cclone_any gc oc cc (caL D n l) w (by omega) (by omega) hC
 rw [hl] at hcl ⊢
 have HLe:=hid_of hl
 generalize caL D n l=CL at hcl HLe
 generalize prodN D n=N at c2 hcl HLe
 clear H hC hl hp1 hp3
 go_enter Tryz.func8,Tryz.ntmps8
 go_wp2_with fail
 refine hcl.mono ?_
 rintro e w1 ⟨⟨g,c',rfl,-,hc1,hc2,hCB⟩,hb1⟩
 have HF:Hid (CelV w1 (some ⟨g,0,none⟩) c' CL∧Below w.heap.size w w1):=⟨⟨by rw [HLe.out];exact hc1,hc2,Or.inr ⟨g,0,rfl,hCB.celAt⟩⟩,hb1⟩
 clear hb1 hCB hcl
 go_wp2_with fail
 go_ret
 exact ⟨⟨_,c',rfl,HF.out.1⟩,HF.out.2⟩
set_option maxHeartbeats 4000000 in
theorem hall_entries (h:Nat) (S:Nat→Prop) (D:Nat→Dm) (n:Nat) (l:List En) (w:World) (H:HV w h S D n l) :
  Calls Tryz.prog 10 #[.pointer (some ⟨h,0,none⟩)] w fun e w'=>(∃ A' c' zs,e=.returned (.slice A' zs.length c')∧EnsV w' A' c' zs∧lE zs=l)∧Below w.heap.size w w':=by
 obtain ⟨A0,co,A,C,Ae,ce,zs,gc,oc,cc,hh,⟨-,c1,-⟩,hl,-,-,-,hEn,-⟩:=H.parts
 have hEs:=H.2.1.2
 rw [←hl] at hEs
 have hfr:=fresh_any Ae ce zs w (few_of hEs) (fresh_of hEs) hEn
 have HL:=hid_of hl
 have HLn:Hid (∀ ys:List EnL,lE ys=lE zs→ys.length=zs.length):=fun ys h=>by rw [←lE_len,h,lE_len]
 generalize zs.length=zl at c1 hfr HLn
 clear H hEn hl hEs
 go_enter Tryz.func10,Tryz.ntmps10
 go_wp2_with fail
 refine hfr.mono ?_
 rintro e w1 ⟨⟨ys,rfl,hRow,hle⟩,hb1⟩
 have HF:Hid (EnsV w1 (some ⟨w.heap.size,0,none⟩) zl ys∧lE ys=l∧Below w.heap.size w w1∧ys.length=zl):=⟨hRow.ensV,hle.trans HL.out,hb1,HLn.out ys hle⟩
 clear hb1 hRow hle hfr
 go_wp2_with fail
 go_ret
 exact ⟨⟨_,zl,ys,by rw [HF.out.2.2.2];rfl,HF.out.1,HF.out.2.1⟩,HF.out.2.2.1⟩
set_option maxHeartbeats 4000000 in
theorem hall_cell (h:Nat) (S:Nat→Prop) (D:Nat→Dm) (n:Nat) (l:List En) (Ap:Option Addr) (cp:Nat) (p:List Int) (w:World) (H:HV w h S D n l) (hP:PlAt w Ap cp p) :
  Calls Tryz.prog 14 #[.pointer (some ⟨h,0,none⟩),.slice Ap p.length cp] w fun e w'=>e=.returned (.tuple #[.agg #[.int .i64 (hcV D n l p).1,.int .i64 (hcV D n l p).2],errV (placeErr D n p)])∧Below w.heap.size w w':=by
 obtain ⟨A0,co,A,C,Ae,ce,zs,gc,oc,cc,hh,⟨c0,-,c2⟩,-,hcc,-,hM,-,hC⟩:=H.parts
 obtain ⟨hE,hl,hp1,hp3⟩:=H.sizes
 obtain ⟨W,hW⟩:∃ W,w.alloc (.cells #[.int .i64 0,.int .i64 0] 54)=W:=⟨_,rfl⟩
 have hBW:Below w.heap.size w W:=by rw [←hW];go_grown
 have hWs:W.heap.size=w.heap.size+1:=by rw [←hW];simp
 obtain ⟨k0,k1,kf0,kf1⟩:=pair_at (show W.heap[w.heap.size]?=some (.cells #[.int .i64 0,.int .i64 0] 54 (0,0)) from by rw [←hW];exact heap_alloc_new ..)
 have hnum:=pnumber_any A0 co n D A C Ap cp p W (hM.later hBW) (hP.later hBW)
 have c0':=(hBW.cell (p:=⟨h,0,none⟩) hh).trans c0
 have HBW:=hid_of hBW
 have hne:h≠w.heap.size:=by omega
 by_cases hp:placeErr D n p=0
 ·have hI:=inO_of hp
  have hbd:=numI_bound hI (Nat.le_refl n)
  obtain ⟨m,hm⟩:∃ m:Nat,numI D p n=(m:Int):=⟨(numI D p n).toNat,by have:=hbd.1;omega⟩
  have hmN:m<prodN D n:=by have:=hbd.2.1;omega
  have hnv:numV D n p=(m:Int):=by unfold numV;rw [if_pos hp,hm]
  have hcv:hcV D n l p=(caL D n l).getD m noC:=by unfold hcV;rw [if_pos hp,hm,Int.toNat_natCast]
  rw [hnv,hp,errV_zero] at hnum
  rw [hcv,hp,errV_zero]
  obtain ⟨d0,d1⟩:=hC.2 m (by rw [hl];exact hmN)
  have hgl:=hC.1
  have hccI:(prodN D n:Int)≤(cc:Int):=by omega
  have hmI:(m:Int)<(prodN D n:Int):=by omega
  have hNI:(prodN D n:Int)≤3000:=by omega
  generalize (caL D n l).getD m noC=r at d0 d1
  obtain ⟨ra,rb⟩:=r
  simp only at d0 d1 ⊢
  generalize prodN D n=N at c2 hmN hccI hmI hNI
  generalize p.length=pl at hnum
  clear H hM hC hP hI hbd hm hnv hcv hp hE hl hp1 hp3 hcc
  have hgne:gc≠w.heap.size:=by omega
  go_enter Tryz.func14,Tryz.ntmps14
  go_wp2_with fail
  refine hnum.mono ?_
  rintro e w1 ⟨rfl,hb1⟩
  have HB1:Hid (Below w.heap.size w w1):=onB HBW.out hb1
  have x2:w1.cell? ⟨h,2,none⟩=some (.slice (some ⟨gc,oc,none⟩) N cc):=(HB1.out.cell (p:=⟨h,2,none⟩) hh).trans c2
  have y0:w1.cell? ⟨gc,oc+m*2,none⟩=some (.int .i64 ra):=(HB1.out.cell (p:=⟨gc,oc+m*2,none⟩) hgl).trans d0
  have y1:w1.cell? ⟨gc,oc+m*2+1,none⟩=some (.int .i64 rb):=(HB1.out.cell (p:=⟨gc,oc+m*2+1,none⟩) hgl).trans d1
  have z0:=(hb1.cell (p:=⟨w.heap.size,0,none⟩) (by show w.heap.size<_;omega)).trans k0
  have z1:=(hb1.cell (p:=⟨w.heap.size,1,none⟩) (by show w.heap.size<_;omega)).trans k1
  have zf0:=(hb1.frozen (p:=⟨w.heap.size,0,none⟩) (by show w.heap.size<_;omega)).trans kf0
  have zf1:=(hb1.frozen (p:=⟨w.heap.size,1,none⟩) (by show w.heap.size<_;omega)).trans kf1
  have hs1:w.heap.size<w1.heap.size:=by have:=hb1.size;omega
  clear hb1 hnum k0 k1 kf0 kf1 c0 c0' c2 d0 d1 hW
  go_wp2_with fail
  have hq0:((w1.setCell ⟨w.heap.size,0,none⟩ (.int .i64 ra)).setCell ⟨w.heap.size,1,none⟩ (.int .i64 rb)).cell? ⟨w.heap.size,0,none⟩=some (.int .i64 ra):=by rw [World.cell?_setCell_other _ _ _ _ (by simp)];exact World.cell?_setCell_same _ _ _ z0
  have hq1:((w1.setCell ⟨w.heap.size,0,none⟩ (.int .i64 ra)).setCell ⟨w.heap.size,1,none⟩ (.int .i64 rb)).cell? ⟨w.heap.size,1,none⟩=some (.int .i64 rb):=World.cell?_setCell_same _ _ _ ((World.cell?_setCell_other _ _ _ _ (by simp)).trans z1)
  refine bodyPost_ret (v:=.tuple #[.agg #[.int .i64 ra,.int .i64 rb],.nilIface]) (by simp [results,Tryz.results14,go_sem,hq0,hq1]) rfl ⟨rfl,(HB1.out.setCell (Nat.le_refl _) _).setCell (Nat.le_refl _) _⟩
 ·have hcv:hcV D n l p=(0,0):=by unfold hcV;rw [if_neg hp]
  rw [errV_some hp] at hnum
  rw [hcv,errV_some hp]
  simp only
  generalize placeErr D n p=z at hnum
  generalize numV D n p=nv at hnum
  generalize p.length=pl at hnum
  clear H hM hC hP hcv hp hE hl hp1 hp3 hcc
  go_enter Tryz.func14,Tryz.ntmps14
  go_wp2_with fail
  refine hnum.mono ?_
  rintro e w1 ⟨rfl,hb1⟩
  have HB1:Hid (Below w.heap.size w w1):=onB HBW.out hb1
  have z0:=(hb1.cell (p:=⟨w.heap.size,0,none⟩) (by show w.heap.size<_;omega)).trans k0
  have z1:=(hb1.cell (p:=⟨w.heap.size,1,none⟩) (by show w.heap.size<_;omega)).trans k1
  have zf0:=(hb1.frozen (p:=⟨w.heap.size,0,none⟩) (by show w.heap.size<_;omega)).trans kf0
  have zf1:=(hb1.frozen (p:=⟨w.heap.size,1,none⟩) (by show w.heap.size<_;omega)).trans kf1
  have hs1:w.heap.size<w1.heap.size:=by have:=hb1.size;omega
  clear hb1 hnum k0 k1 kf0 kf1 c0 c0' c2 hW
  go_wp2_with fail
  have hq0:((w1.setCell ⟨w.heap.size,0,none⟩ (.int .i64 0)).setCell ⟨w.heap.size,1,none⟩ (.int .i64 0)).cell? ⟨w.heap.size,0,none⟩=some (.int .i64 0):=by rw [World.cell?_setCell_other _ _ _ _ (by simp)];exact World.cell?_setCell_same _ _ _ z0
  have hq1:((w1.setCell ⟨w.heap.size,0,none⟩ (.int .i64 0)).setCell ⟨w.heap.size,1,none⟩ (.int .i64 0)).cell? ⟨w.heap.size,1,none⟩=some (.int .i64 0):=World.cell?_setCell_same _ _ _ ((World.cell?_setCell_other _ _ _ _ (by simp)).trans z1)
  refine bodyPost_ret (v:=.tuple #[.agg #[.int .i64 0,.int .i64 0],.iface 95 (.int .i64 z)]) (by simp [results,Tryz.results14,go_sem,hq0,hq1]) rfl ⟨rfl,(HB1.out.setCell (Nat.le_refl _) _).setCell (Nat.le_refl _) _⟩
end Go.Proofs.YtfgegmpoejilnaaGreatDoor
namespace Go.Proofs.YtfgegmpoejilnaaGreatDoor
open Go Go.ChangeShapes Go.WideShapes Go.ChangeAt Go.RowKit Go.Deep
set_option maxRecDepth 100000
theorem open_list {H:Type} {enc:TypeId×Value→H} {w:World} {held:Bool} {r:Reach} {b0:Nat} {v:Value} {d:DataW H} {p:List MemPlace} (hv:Value.okWide Tryz.prog w r b0 38 v) (h:DataW.Trod enc Tryz.prog w 0 (fun _=>true) held 38 v d p) :
  ∃ (Ap:Option Addr) (cp:Nat) (L:List Int),v=.slice Ap L.length cp∧PlAt w Ap cp L:=by
 obtain ⟨a,len,cap,rfl⟩:=okWide_slice Tryz.underlying38 hv
 obtain ⟨fuel,hf⟩:=h
 have hf':DataW.trod enc Tryz.prog w 0 (fun _=>true) held fuel 38 [.slice a len cap]=some (d,p):=hf
 rcases open_ints Tryz.underlying38 Tryz.underlying3 (by kernel_rfl) hf' with ⟨e,_⟩ | ⟨a',len',cap',zs,e,_,hl,_,hzl,_,hc,_⟩
 ·simp at e
  obtain ⟨rfl,rfl,rfl⟩:=e
  exact ⟨none,0,[],rfl,PlAt.nil _ _ _⟩
 ·simp at e hzl
  obtain ⟨rfl,rfl,rfl⟩:=e
  have hlen:(zs.take len).length=len:=by simp;omega
  refine ⟨some a',cap,zs.take len,by rw [hlen],by rw [hlen];exact hl,?_⟩
  rcases Nat.eq_zero_or_pos len with h0 | h0
  ·left
   subst h0
   simp
  right
  have c0:=hc 0 (by omega)
  have hp:=addr_plain c0 rfl
  have hb:=World.block_lt_of_cell? _ _ c0
  refine ⟨a'.block,a'.off,by rw [←hp],by simpa [Addr.add] using hb,fun j hj=>?_⟩
  rw [hlen] at hj
  have:=hc j (by omega)
  rw [hp,plain_add] at this
  rw [this]
  simp [List.getD,hj]
end Go.Proofs.YtfgegmpoejilnaaGreatDoor
namespace Go.Proofs.YtfgegmpoejilnaaGreatDoor
open Go Go.ChangeShapes Go.WideShapes Go.ChangeAt Go.RowKit
theorem post_below {H:Type} {enc:TypeId×Value→H} {P:Program} {f:Func} {s:ChangeSpec} {apart fresh handsOn:Bool} {W W':World} {args:Array Value} {v:Value} {ds gs:List (DataW H)} {before pa pv:List MemPlace}
  (hW:DataW.Whole enc P f.params.toList s.vars apart W args.toList ds gs before)
  (hres:∀ (b:Nat) (sp:Nat→Bool) (hd:Bool),DataW.TrodAll enc P W' b sp hd f.resultTypes.toList (v.resultList f.resultTypes.size) (s.fn H (ds ++ gs)).results [])
  (hargs:∀ sp:Nat→Bool,(∀ p∈before,sp p.block=true)→DataW.TrodAll enc P W' 0 sp true f.params.toList args.toList (s.fn H (ds ++ gs)).args pa)
  (hvars:∀ sp:Nat→Bool,(∀ p∈before,sp p.block=true)→DataW.TrodVars enc P W' sp s.vars (s.fn H (ds ++ gs)).vars pv)
  (hps:before=pa ++ pv) (hk:W.keptBut W' (·∈before)) :
  s.post enc P f apart fresh handsOn false W args v W':=by
 have hold:∀ p∈before,(fun b=>decide (b<W.heap.size)) p.block=true:=fun p hp=>by simpa using hW.lt p hp
 refine ⟨ds,gs,before,[],pa,pv,hW,hres _ _ _,hargs _ hold,hvars _ hold,World.keptBut_mono (fun p hp=>⟨hp,?_⟩) hk,fun h=>by cases h⟩
 rw [hps,List.mem_append] at hp
 exact Or.inr hp
end Go.Proofs.YtfgegmpoejilnaaGreatDoor
