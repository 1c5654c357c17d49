/-
  A hall edited (package hall): what Do answers; all that a hall must tell.
-/
import Derived.Test.YtfgegmpoejilnaaGreatDoorJGBT
namespace Go.Proofs.YtfgegmpoejilnaaGreatDoor
open Go.ChangeShapes Go.WideShapes Go.ChangeAt Go.RowKit
set_option maxRecDepth 20000
theorem keepH2 {W w':World} {q:Nat} {u v:Value} (h:q<W.heap.size∧W.cell? ⟨q,0,none⟩=some u∧W.cell? ⟨q,1,none⟩=some v) (hB:Below W.heap.size W w'):Below W.heap.size W w'∧w'.cell? ⟨q,0,none⟩=some u∧w'.cell? ⟨q,1,none⟩=some v:=⟨hB,(hB.cell (p:=⟨q,0,none⟩) h.1).trans h.2.1,(hB.cell (p:=⟨q,1,none⟩) h.1).trans h.2.2⟩
theorem set2_ty {w:World} {h T:Nat} {a b c:Value} {fr:Nat×Nat} (k:w.heap[h]?=some (.cells #[a,b,c] T fr)) (u v:Value):((w.setCell ⟨h,1,none⟩ u).setCell ⟨h,2,none⟩ v).heap[h]?=some (.cells #[a,u,v] T fr):=set_ty (set_ty k)
set_option maxHeartbeats 16000000 in
theorem hall_do2 (h:Nat) (S:Nat→Prop) (D:Nat→Dm) (n:Nat) (l:List En) (Ax:Option Addr) (cx:Nat) (ys:List EdL) (w:World) (H:HV w h S D n l) (hX:EdsV w Ax cx ys) :
  Calls Tryz.prog 7 #[.pointer (some ⟨h,0,none⟩),.slice Ax ys.length cx] w fun e w'=>(∃ S',e=.returned (.tuple #[.int .i64 (doN D n l (lD ys):Nat),errV (doE D n l (lD ys))])∧HV w' h S' D n (doL D n l (lD ys))∧∀ b,S' b→S b∨w.heap.size≤b)∧Kept w.heap.size (fun b=>b=h) w w':=by
 have HH:=hid_of H
 obtain ⟨hSb,⟨hr,hEs⟩,hSh,A0,co,A,C,Ae,ce,zs,gc,oc,cc,hblk,hlz,hcc,hc9,hfr⟩:=id H
 obtain ⟨hM,hEn,hC⟩:=hfr w (Nat.le_refl _) fun _ _ _=>rfl
 obtain ⟨hE,hcl,hp1,hp3⟩:=H.sizes
 have hh:h<w.heap.size:=hSb h hSh
 have c0:w.cell? ⟨h,0,none⟩=some (.slice A0 n co):=(Lib.cell_of_heap hblk 0).trans rfl
 have c1:w.cell? ⟨h,1,none⟩=some (.slice Ae zs.length ce):=(Lib.cell_of_heap hblk 1).trans rfl
 have c2:w.cell? ⟨h,2,none⟩=some (.slice (some ⟨gc,oc,none⟩) (prodN D n) cc):=(Lib.cell_of_heap hblk 2).trans rfl
 have HBx:Hid (h<w.heap.size∧w.cell? ⟨h,0,none⟩=some (.slice A0 n co)∧w.cell? ⟨h,1,none⟩=some (.slice Ae zs.length ce)):=⟨hh,c0,c1⟩
 have HIa:Hid (∀ w',Below w.heap.size w w'→Calls Tryz.prog 22 #[.agg #[.slice A0 n co],.slice Ae zs.length ce,.slice Ax ys.length cx] w' fun e w''=>(∃ B c us,e=.returned (.tuple #[.slice B us.length c,.int .i64 (editsV D n l (lD ys)).2.1,errV (doE D n l (lD ys))])∧EnsV w'' B c us∧lE us=(editsV D n l (lD ys)).1∧NewA w.heap.size B∧NewE w.heap.size us)∧Below w'.heap.size w' w''):=fun w' hB=>by
  have h':=iall_new A0 co n D A C Ae ce zs Ax cx ys w' (hM.later hB) (hEn.later hB) (hX.later hB)
  rw [hlz] at h'
  exact h'.mono fun _ _ ⟨⟨B,c,us,a1,a2,a3,a4,a5⟩,a6⟩=>⟨⟨B,c,us,a1,a2,a3,a4.le hB.size,a5.le hB.size⟩,a6⟩
 by_cases he:doE D n l (lD ys)=0
 ·obtain ⟨hy60,hdl,hdo⟩:=do_all hEs he
  rw [lD_len] at hy60 hdo
  have hl2:=do_ens hEs (lD ys)
  have HV1:Hid (doL D n l (lD ys)=(editsV D n l (lD ys)).1):=by show _=_;unfold doL;rw [if_pos he]
  rw [he,errV_zero] at HIa ⊢
  have HCl:Hid (∀ w',Below w.heap.size w w'→Calls Tryz.prog 23 #[.slice (some ⟨gc,oc,none⟩) (prodN D n) cc] w' fun e w''=>(∃ g c',e=.returned (.slice (some ⟨g,0,none⟩) (prodN D n) c')∧w'.heap.size≤g∧prodN D n≤c'∧c'≤9223372036854775807∧CelB w'' g (caL D n l))∧Below w'.heap.size w' w''):=fun w' hB=>by
   have h':=cclone_any gc oc cc (caL D n l) w' (by omega) (by omega) (hC.later hB)
   rw [hcl] at h'
   exact h'
  have HWr:Hid (∀ w0 w' gC cC,Below w.heap.size w w0→Below w0.heap.size w0 w'→w0.heap.size≤gC→CelB w' gC (caL D n l)→prodN D n≤cC→Calls Tryz.prog 24 #[.agg #[.slice A0 n co],.slice (some ⟨gC,0,none⟩) (prodN D n) cC,.slice Ax ys.length cx] w' fun e w''=>e=.returned .nilIface∧CelB w'' gC (wrTo D n (caL D n l) (lD ys) (lD ys).length)∧Below w0.heap.size w0 w''):=fun w0 w' gC cC hB0 hB hg hCB hcC=>by
   have h':=hwrite_any A0 co n D A C Ax cx ys gC cC (caL D n l) w0 w' hy60 hp3 (hM.later hB0) (hX.later hB0) hB hg hCB hcl hcC fun k hk=>by
    have h2:=hdo k hk
    rw [lD_at0] at h2
    exact (h2.2.edit h2.1).1
   rw [lD_len]
   exact h'
  have HAg:Hid (∀ w0 w' gC cC,Below w.heap.size w w0→Below w0.heap.size w0 w'→w0.heap.size≤gC→CelB w' gC (wrTo D n (caL D n l) (lD ys) (lD ys).length)→prodN D n≤cC→cC≤9223372036854775807→Calls Tryz.prog 25 #[.agg #[.slice A0 n co],.slice (some ⟨gC,0,none⟩) (prodN D n) cC,.slice Ax ys.length cx] w' fun e w''=>e=.returned (.tuple #[.int .i64 (doN D n l (lD ys):Nat),.nilIface])∧CelB w'' gC (caL D n (doL D n l (lD ys)))∧Below w0.heap.size w0 w''):=fun w0 w' gC cC hB0 hB hg hCB hcC hc99=>hagain_any A0 co n D A C Ax cx ys gC cC l w0 w' hr hEs he (hM.later hB0) (hX.later hB0) hB hg hCB hcC hc99
  have HEnd:Hid (∀ (w4:World) B c us gC cC,EnsV w4 B c us→lE us=(editsV D n l (lD ys)).1→NewA w.heap.size B→NewE w.heap.size us→Below w.heap.size w w4→w.heap.size≤gC→CelB w4 gC (caL D n (doL D n l (lD ys)))→prodN D n≤cC→cC≤9223372036854775807→(∃ S',HV ((w4.setCell ⟨h,1,none⟩ (.slice B us.length c)).setCell ⟨h,2,none⟩ (.slice (some ⟨gC,0,none⟩) (prodN D n) cC)) h S' D n (doL D n l (lD ys))∧∀ b,S' b→S b∨w.heap.size≤b)∧Kept w.heap.size (fun b=>b=h) w ((w4.setCell ⟨h,1,none⟩ (.slice B us.length c)).setCell ⟨h,2,none⟩ (.slice (some ⟨gC,0,none⟩) (prodN D n) cC))):=fun w4 B c us gC cC hEu hle hnB hnE hb4 hgC hCB hcC hc99=>by
   have hoff:∀ b,b≠h→((w4.setCell ⟨h,1,none⟩ (.slice B us.length c)).setCell ⟨h,2,none⟩ (.slice (some ⟨gC,0,none⟩) (prodN D n) cC)).heap[b]?=w4.heap[b]?:=fun b hb=>(setCell_off _ _ _ _ _ hb).trans (setCell_off _ _ _ _ _ hb)
   have hsz:((w4.setCell ⟨h,1,none⟩ (.slice B us.length c)).setCell ⟨h,2,none⟩ (.slice (some ⟨gC,0,none⟩) (prodN D n) cC)).heap.size=w4.heap.size:=by simp
   have hos:((w4.setCell ⟨h,1,none⟩ (.slice B us.length c)).setCell ⟨h,2,none⟩ (.slice (some ⟨gC,0,none⟩) (prodN D n) cC)).os=w4.os∧((w4.setCell ⟨h,1,none⟩ (.slice B us.length c)).setCell ⟨h,2,none⟩ (.slice (some ⟨gC,0,none⟩) (prodN D n) cC)).tape=w4.tape∧((w4.setCell ⟨h,1,none⟩ (.slice B us.length c)).setCell ⟨h,2,none⟩ (.slice (some ⟨gC,0,none⟩) (prodN D n) cC)).output=w4.output:=⟨rfl,rfl,rfl⟩
   have hnew:((w4.setCell ⟨h,1,none⟩ (.slice B us.length c)).setCell ⟨h,2,none⟩ (.slice (some ⟨gC,0,none⟩) (prodN D n) cC)).heap[h]?=some (.cells #[.slice A0 n co,.slice B us.length c,.slice (some ⟨gC,0,none⟩) (prodN D n) cC] 68 (0,0)):=set2_ty ((hb4.block h hh).trans hblk) _ _
   generalize (w4.setCell ⟨h,1,none⟩ (.slice B us.length c)).setCell ⟨h,2,none⟩ (.slice (some ⟨gC,0,none⟩) (prodN D n) cC)=w5 at hoff hsz hnew hos ⊢
   refine ⟨⟨fun b=>S b∨(w.heap.size≤b∧b<w4.heap.size),⟨fun b hb=>?_,⟨hr,hl2⟩,Or.inl hSh,A0,co,A,C,B,c,us,gC,0,cC,hnew,hle.trans HV1.out.symm,hcC,hc99,fun w' hs hb=>?_⟩,fun b hb=>hb.imp id fun h=>h.1⟩,?_⟩
   ·rw [hsz]
    rcases hb with hb | hb
    ·exact Nat.lt_of_lt_of_le (hSb b hb) hb4.size
    ·exact hb.2
   ·rw [hsz] at hs
    have hag:∀ b,w.heap.size≤b→b<w4.heap.size→w'.heap[b]?=w4.heap[b]?:=fun b h1 h2=>(hb b (Or.inr ⟨h1,h2⟩) (by omega)).trans (hoff b (by omega))
    exact ⟨(hfr w' (Nat.le_trans hb4.size hs) fun b hb1 hb2=>((hb b (Or.inl hb1) hb2).trans (hoff b hb2)).trans (hb4.block b (hSb b hb1))).1,hEu.frame hnB hnE hs hag,hCB.celAt.same hs (hag gC hgC hCB.lt)⟩
   ·exact ⟨hos.1.trans hb4.os,hos.2.1.trans hb4.tape,hos.2.2.trans hb4.output,by rw [hsz];exact hb4.size,fun k hk hn=>(hoff k hn).trans (hb4.block k hk)⟩
  have HFz:Hid (∀ w4,Below w.heap.size w w4→w4.cell? ⟨h,0,none⟩=some (.slice A0 n co)∧w4.cell? ⟨h,1,none⟩=some (.slice Ae zs.length ce)∧w4.cell? ⟨h,2,none⟩=some (.slice (some ⟨gc,oc,none⟩) (prodN D n) cc)∧w4.frozen? ⟨h,1,none⟩=false∧w4.frozen? ⟨h,2,none⟩=false∧h<w4.heap.size):=fun w4 hb=>by
   have k:=(hb.block h hh).trans hblk
   exact ⟨(Lib.cell_of_heap k 0).trans rfl,(Lib.cell_of_heap k 1).trans rfl,(Lib.cell_of_heap k 2).trans rfl,Lib.frozen_of_heap k 1,Lib.frozen_of_heap k 2,Nat.lt_of_lt_of_le hh hb.size⟩
  generalize caL D n (doL D n l (lD ys))=CL2 at HAg HEnd
  generalize wrTo D n (caL D n l) (lD ys) (lD ys).length=CL1 at HWr HAg
  generalize caL D n l=CL0 at HCl HWr
  generalize prodN D n=N at HCl HWr HAg HEnd HFz c2
  generalize doN D n l (lD ys)=NN at HAg ⊢
  generalize doL D n l (lD ys)=l2 at HEnd ⊢
  generalize (editsV D n l (lD ys)).1=ev at HIa HEnd
  generalize (editsV D n l (lD ys)).2.1=ek at HIa
  generalize zs.length=zl at c1 HBx HIa HFz
  generalize ys.length=yl at HIa HWr HAg ⊢
  clear H HH hSb hr hEs hSh hblk hlz hcc hc9 hfr hM hEn hC hE hcl hp1 hp3 hX he hy60 hdl hdo hl2 HV1
  go_enter Tryz.func7,Tryz.ntmps7
  go_wp2_with fail
  go_cut [6,7,8] from 12 (fun s6 s7 s8 wx=>s8=.nilIface∧∃ B c us,s6=.slice B us.length c∧EnsV wx B c us∧lE us=ev∧NewA w.heap.size B∧NewE w.heap.size us∧Below w.heap.size w wx)
  case first =>
   go_region_held3 (fun w'=>Below w.heap.size w w'∧w'.cell? ⟨h,0,none⟩=some (.slice A0 n co)∧w'.cell? ⟨h,1,none⟩=some (.slice Ae zl ce))
    ((refine keepH2 HBx.out ?_;go_grown;done))
    (first
     | (go_at_call 22;refine (HIa.out _ (by go_grown)).mono ?_;rintro e wa ⟨⟨Ba,ca,us,rfl,hua,hul,hun,hue⟩,hba⟩;have hNa:=onB (W0:=w) (by go_grown) hba;have hsa:=hNa.size;clear hba))
   all_goals go_wp2_with fail
   all_goals go_meet
   all_goals exact ⟨rfl,_,_,us,rfl,hua.later (by go_grown),hul,hun,hue,by go_grown⟩
  case rest =>
  obtain ⟨rfl,B,c,us,rfl,hEu,hlu,hnB,hnE,hBd⟩:=hcut
  obtain ⟨w1,rfl⟩:∃ wd:World,wd=wc:=⟨_,rfl⟩
  have HEu:Hid (EnsV w1 B c us∧lE us=ev∧NewA w.heap.size B∧NewE w.heap.size us):=⟨hEu,hlu,hnB,hnE⟩
  have HB1:=hid_of hBd
  obtain ⟨x0,x1,x2,-,-,hh1⟩:=HFz.out w1 hBd
  have h1:=HCl.out w1 hBd
  clear hEu hlu hnB hnE hBd c0 c1 c2
  go_wp2_with fail
  refine h1.mono ?_
  rintro e w2 ⟨⟨gC,cC,rfl,hgC,hcC,hc99,hCB⟩,hb2⟩
  have HB2:=hid_of hb2
  obtain ⟨y0,-,-,-,-,hh2⟩:=HFz.out w2 (onB HB1.out hb2)
  have h2:=HWr.out w1 w2 gC cC HB1.out hb2 hgC hCB hcC
  clear x0 x1 x2 hb2 h1 hCB
  go_wp2_with fail
  refine h2.mono ?_
  rintro e w3 ⟨rfl,hC3,hb3⟩
  obtain ⟨z0,-,-,-,-,hh3⟩:=HFz.out w3 (onB HB1.out hb3)
  have h3:=HAg.out w1 w3 gC cC HB1.out hb3 hgC hC3 hcC hc99
  clear y0 hb3 hC3 h2
  go_wp2_with fail
  refine h3.mono ?_
  rintro e w4 ⟨rfl,hC4,hb4⟩
  obtain ⟨-,v1,v2,f1,f2,hh4⟩:=HFz.out w4 (onB HB1.out hb4)
  have HFin:=hid_of (HEnd.out w4 B c us gC cC (HEu.out.1.later hb4) HEu.out.2.1 HEu.out.2.2.1 HEu.out.2.2.2 (onB HB1.out hb4) (Nat.le_trans HB1.out.size hgC) hC4 hcC hc99)
  clear z0 hb4 hC4 h3
  go_wp2_with fail
  go_returns
  obtain ⟨⟨S',hH',hS'⟩,hK⟩:=HFin.out
  exact ⟨⟨S',rfl,hH',hS'⟩,hK⟩
 ·have hdl:doL D n l (lD ys)=l:=by unfold doL;rw [if_neg he]
  have hdn:doN D n l (lD ys)=0:=by unfold doN;rw [if_neg he]
  rw [hdl,hdn,errV_some he]
  rw [errV_some he] at HIa
  have HEnd:Hid (∀ w',Below w.heap.size w w'→(∃ S',HV w' h S' D n l∧∀ b,S' b→S b∨w.heap.size≤b)∧Kept w.heap.size (fun b=>b=h) w w'):=fun w' hB=>⟨⟨S,HH.out.keep hB.size fun b hb=>hB.block b (hSb b hb),fun b hb=>Or.inl hb⟩,kept_below hB (Nat.le_refl _)⟩
  generalize (editsV D n l (lD ys)).1=ev at HIa
  generalize (editsV D n l (lD ys)).2.1=ek at HIa
  generalize doE D n l (lD ys)=z at HIa
  generalize zs.length=zl at c1 HBx HIa
  generalize ys.length=yl at HIa ⊢
  clear H HH hSb hr hEs hSh hblk hlz hcc hc9 hfr hM hEn hC hE hcl hp1 hp3 hX he hdl hdn
  go_enter Tryz.func7,Tryz.ntmps7
  go_wp2_with fail
  go_cut [6,7,8] from 12 (fun s6 s7 s8 wx=>s8=.iface 95 (.int .i64 z)∧Below w.heap.size w wx)
  case first =>
   go_region_held3 (fun w'=>Below w.heap.size w w'∧w'.cell? ⟨h,0,none⟩=some (.slice A0 n co)∧w'.cell? ⟨h,1,none⟩=some (.slice Ae zl ce))
    ((refine keepH2 HBx.out ?_;go_grown;done))
    (first
     | (go_at_call 22;refine (HIa.out _ (by go_grown)).mono ?_;rintro e wa ⟨⟨Ba,ca,us,rfl,-,-,-,-⟩,hba⟩;have hNa:=onB (W0:=w) (by go_grown) hba;have hsa:=hNa.size;clear hba))
   all_goals go_wp2_with fail
   all_goals go_meet
   all_goals exact ⟨rfl,by go_grown⟩
  case rest =>
  obtain ⟨rfl,hBd⟩:=hcut
  obtain ⟨w1,rfl⟩:∃ wd:World,wd=wc:=⟨_,rfl⟩
  have HFin:=hid_of (HEnd.out w1 hBd)
  clear hBd
  go_wp2_with fail
  go_returns
  obtain ⟨⟨S',hH',hS'⟩,hK⟩:=HFin.out
  exact ⟨⟨S',rfl,hH',hS'⟩,hK⟩
theorem hall_do (h:Nat) (S:Nat→Prop) (D:Nat→Dm) (n:Nat) (l:List En) (Ax:Option Addr) (cx:Nat) (ys:List EdL) (w:World) (H:HV w h S D n l) (hX:EdsV w Ax cx ys) :
  Calls Tryz.prog 7 #[.pointer (some ⟨h,0,none⟩),.slice Ax ys.length cx] w fun e w'=>(∃ S',e=.returned (.tuple #[.int .i64 (doN D n l (lD ys):Nat),errV (doE D n l (lD ys))])∧HV w' h S' D n (doL D n l (lD ys))∧∀ b,S' b→S b∨w.heap.size≤b)∧Kept w.heap.size S w w' :=
 (hall_do2 h S D n l Ax cx ys w H hX).mono fun _ _ ⟨h1,h2⟩=>⟨h1,h2.wide fun k e=>by rw [e];exact H.2.2.1⟩
theorem hall_c:HallC HV where
 keep:=fun H hs hb=>H.keep hs hb
 inS:=fun H b hb=>H.1 b hb
 right:=fun H=>H.2.1
 bad:=hall_bad
 new:=hall_new
 edit:=hall_do
 cells:=hall_cells
 entries:=hall_entries
theorem hall_k:HallK HV:=hall_cell
end Go.Proofs.YtfgegmpoejilnaaGreatDoor
