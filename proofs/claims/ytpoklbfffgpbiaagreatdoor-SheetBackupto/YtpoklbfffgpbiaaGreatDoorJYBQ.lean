/-
  A CUBE IS READ AS IT WAS: the walk of tallylaw3.SheetBack.
-/
import Derived.Test.YtpoklbfffgpbiaaGreatDoorJYBP
namespace Go.Proofs.YtpoklbfffgpbiaaGreatDoor
open Go Go.ChangeShapes Go.WideShapes Go.ChangeAt Go.RowKit
set_option maxRecDepth 20000
theorem mems_cg {w:World} {A:Option Addr} {c n:Nat} {M M':Nat→Mem} (h:MemsV w A c n M) (hm:∀ k,k<n→M' k=M k):MemsV w A c n M':=by
 obtain ⟨h1,h2 | ⟨b,o,h2,h3,h4⟩⟩:=h
 ·exact ⟨h1,Or.inl h2⟩
 ·exact ⟨h1,Or.inr ⟨b,o,h2,h3,fun j hj=>by rw [hm j hj];exact h4 j hj⟩⟩
theorem dims_cg {w:World} {A0:Option Addr} {cap n:Nat} {D D':Nat→Dm} {A:Nat→Option Addr} {C:Nat→Nat} (h:DimsV w A0 cap n D A C) (hd:∀ i,i<n→(D' i).name=(D i).name∧(D' i).solve=(D i).solve∧(D' i).n=(D i).n∧∀ k,k<(D i).n→(D' i).mem k=(D i).mem k):DimsV w A0 cap n D' A C:=by
 obtain ⟨h1,h2 | ⟨b,o,h2,h3,h4⟩⟩:=h
 ·exact ⟨h1,Or.inl h2⟩
 ·refine ⟨h1,Or.inr ⟨b,o,h2,h3,fun i hi=>?_⟩⟩
  obtain ⟨e1,e2,e3,e4⟩:=hd i hi
  obtain ⟨c1,c2,c3,c4⟩:=h4 i hi
  unfold DimAt
  rw [e1,e2,e3]
  exact ⟨c1,c2,c3,mems_cg c4 e4⟩
def rdsOf (D:Nat→Dm) (n:Nat):List RDm:=(List.range n).map fun i=>⟨(D i).name,(D i).solve,(List.range (D i).n).map (D i).mem⟩
theorem rdsOf_len (D:Nat→Dm) (n:Nat):(rdsOf D n).length=n:=by simp [rdsOf]
theorem rds_dims {w:World} {A0:Option Addr} {cap n:Nat} {D:Nat→Dm} {A:Nat→Option Addr} {C:Nat→Nat} (h:DimsV w A0 cap n D A C):DimsV w A0 cap n (dmL (rdsOf D n)) A C:=by
 refine dims_cg h fun i hi=>?_
 have e:(rdsOf D n).getD i noRD=⟨(D i).name,(D i).solve,(List.range (D i).n).map (D i).mem⟩:=by
  rw [List.getD_eq_getElem?_getD]
  simp [rdsOf,hi]
 unfold dmL
 rw [e]
 refine ⟨rfl,rfl,by show ((List.range (D i).n).map (D i).mem).length=_;simp,fun k hk=>?_⟩
 show ((List.range (D i).n).map (D i).mem).getD k noM=_
 rw [List.getD_eq_getElem?_getD]
 simp [hk]
def sbkD:List RDm:=[⟨mkB [97],0,[⟨mkB [98],-1,1,mkB []⟩,⟨mkB [99],0,-1,mkB []⟩]⟩]
def sbkL:List En:=[⟨[1],7⟩]
def sbkT:ByteArray:=⟨#[100,105,109,32,97,32,48,10,109,101,109,32,98,32,45,32,43,10,109,101,109,32,99,32,48,32,45,10,99,101,108,108,32,99,32,55,10]⟩
theorem sbk_sh:shE (dmL sbkD) sbkD.length sbkL=0:=by
 have h:(ruErr (dmL sbkD) sbkD.length).2.2=0:=bare_right (by decide +kernel) fun i hi k hk=>by
  have hi0:i=0:=by have:i<1:=hi;omega
  subst hi0
  have hk2:k<2:=hk
  rcases k with _ | _ | k
  ·rfl
  ·rfl
  ·omega
 unfold shE
 rw [h,if_neg (by simp)]
 decide +kernel
theorem sbk_text:shV (dmL sbkD) sbkD.length sbkL=sbkT:=by
 unfold shV
 rw [if_pos sbk_sh]
 decide +kernel
theorem sbk_facts:psE sbkT=0∧psN sbkT=1∧psD sbkT=dmL sbkD∧psL sbkT=sbkL:=by
 obtain ⟨-,h1,h2,h3,h4⟩:=print_read sbk_sh
 rw [sbk_text] at h1 h2 h3 h4
 exact ⟨h1,h2,h3,h4⟩
set_option maxHeartbeats 32000000 in
theorem sback_ds (A0:Option Addr) (cap:Nat) (ds:List RDm) (A:Nat→Option Addr) (C:Nat→Nat) (AE:Option Addr) (ce:Nat) (xs:List EnL) (t:ByteArray) (w:World) (hE:EnvS w) (hM:DimsV w A0 cap ds.length (dmL ds) A C) (hEn:EnsV w AE ce xs) (ht:t.size≤1048576) :
  Calls Tryz.prog 3 #[.agg #[.slice A0 ds.length cap],.slice AE xs.length ce,.string t] w fun e w'=>e=.returned (.bool true)∧Below w.heap.size w w':=by
 have hB0:=ownOut_below w A0 ds.length cap 24
 have hat:=ownOut_at w A0 ds.length cap 24
 have hsz:=ownOut_size w A0 ds.length cap 24
 obtain ⟨W,hW⟩:∃ W,ownOut w A0 ds.length cap 24=W:=⟨_,rfl⟩
 rw [hW] at hB0 hat hsz
 unfold ownOut at hW
 have HA:Hid (∀ w',Below W.heap.size W w'→w'.cell? ⟨w.heap.size,0,none⟩=some (.slice A0 ds.length cap)):=fun w' h=>(h.cell (p:=⟨w.heap.size,0,none⟩) (by show w.heap.size<_;omega)).trans hat
 have HB0:=hid_of hB0
 have HM:=hid_of hM
 have HEn:=hid_of hEn
 have HE:=hid_of hE
 obtain ⟨f1,f2,f3,f4⟩:=sbk_facts
 have h1:Calls Tryz.prog 5 #[.string sbkT] W fun e w'=>(∃ A0 cap A C xs AE ce,e=.returned (.tuple #[.agg #[.slice A0 1 cap],.slice AE xs.length ce,.int .i64 0,.nilIface])∧DimsV w' A0 cap 1 (dmL sbkD) A C∧EnsV w' AE ce xs∧lE xs=sbkL)∧Below W.heap.size W w':=(sparse_any sbkT W (hE.later hB0) (by decide)).mono fun e w' ⟨_,h2,h3⟩=>⟨by have:=h2 f1;rw [f2,f3,f4] at this;exact this,h3⟩
 unfold sbkT at h1
 obtain ⟨xl,hxl⟩:∃ xl,xs.length=xl:=⟨_,rfl⟩
 have HXl:=hid_of hxl
 obtain ⟨n,hn⟩:∃ n,ds.length=n:=⟨_,rfl⟩
 have HN:=hid_of hn
 rw [hn] at HA hW
 have HP:Hid (∀ w',Below w.heap.size w w'→Calls Tryz.prog 6 #[.agg #[.slice A0 n cap],.slice AE xl ce] w' fun e w''=>e=.returned (.tuple #[.string (shV (dmL ds) n (lE xs)),errV (shE (dmL ds) n (lE xs))])∧Below w'.heap.size w' w''):=fun w' hb=>by
  rw [←HXl.out,←HN.out]
  exact sprint_any A0 cap ds.length (dmL ds) A C AE ce xs w' (HE.out.later hb).1 (HM.out.later hb) (HEn.out.later hb)
 have HPt:Hid (∀ w',Below w.heap.size w w'→Calls Tryz.prog 5 #[.string t] w' fun e w''=>PsA t w' e w''):=fun w' hb=>sparse_any t w' (HE.out.later hb) ht
 rw [hxl,hn]
 clear hB0 hat hM hEn hE f1 f2 f3 f4 hxl hn
 go_enter Tryz.func3,Tryz.ntmps3
 go_wp2_with fail
 refine h1.mono ?_
 rintro e w1 ⟨⟨Af,cf,Af1,Cf1,fs,Ef,cef,rfl,hDf,hEf,hfs⟩,hb1⟩
 have hfl:fs.length=1:=by rw [←lE_len,hfs];rfl
 obtain ⟨-,h0 | ⟨bf,off,rfl,-,hDc⟩⟩:=hDf
 ·omega
 obtain ⟨-,-,hd3,-⟩:=hDc 0 (by omega)
 obtain ⟨-,-,h0 | ⟨be,oe,rfl,hEa⟩⟩:=hEf
 ·rw [h0] at hfl;cases hfl
 have he2:=(hEa.at (k:=0) (by omega)).2
 have hen:(fs.getD 0 noL).e.n=7:=by
  have:=lE_at fs 0
  rw [hfs] at this
  rw [←this]
  rfl
 rw [hen] at he2
 simp only [Nat.zero_mul,Nat.add_zero] at hd3 he2
 rw [hfl]
 have hd3':w1.cell? ⟨bf,off+2,none⟩=some (.slice (Af1 0) 2 (Cf1 0)):=hd3
 generalize Af1 0=Am at hd3'
 generalize Cf1 0=Cm at hd3'
 have HB1:=hid_of (HB0.out.trans (hb1.mono (by omega)))
 have HA1:Hid (∀ w',Below w1.heap.size w1 w'→w'.cell? ⟨w.heap.size,0,none⟩=some (.slice A0 n cap)):=fun w' hb=>HA.out w' (hb1.trans (hb.mono hb1.size))
 obtain ⟨Y1,hY1⟩:∃ Y1,w1.alloc (.cells #[.slice (some ⟨bf,off,none⟩) 1 cf] 24)=Y1:=⟨_,rfl⟩
 have hbY:Below w1.heap.size w1 Y1:=by rw [←hY1];exact (Below.refl _ _).alloc (Nat.le_refl _) _
 have hcY:Y1.heap[w1.heap.size]?=some (.cells #[.slice (some ⟨bf,off,none⟩) 1 cf] 24 (0,0)):=by rw [←hY1];exact heap_alloc_new ..
 have y0:Y1.cell? ⟨w1.heap.size,0,none⟩=some (.slice (some ⟨bf,off,none⟩) 1 cf):=(Lib.cell_of_heap hcY 0).trans rfl
 have y1:=cell_laterS hd3' hbY
 have y2:=cell_laterS he2 hbY
 have yA:=HA1.out Y1 hbY
 have h2:=HP.out Y1 (onB HB1.out hbY)
 have HBY:=hid_of hbY
 clear h1 hb1 hDc hd3 hd3' he2 hEa hfs hfl hen hbY hcY
 by_cases hok:shE (dmL ds) n (lE xs)=0
 ·have hpr:=print_read (ds:=ds) (l:=lE xs) (by rw [HN.out];exact hok)
  rw [HN.out] at hpr
  obtain ⟨p0,p1,p2,p3,p4⟩:=hpr
  obtain ⟨hru,hEns⟩:=she_ok hok
  have hn4:n≤4:=(allErr_some hEns.right).2.1
  have hd12:∀ i,i<n→(dmL ds i).n≤12:=fun i hi=>(dimErr_right ((allErr_right hEns.right).2 i hi)).2.2.1
  obtain ⟨s,hs⟩:∃ s,shV (dmL ds) n (lE xs)=s:=⟨_,rfl⟩
  rw [hs] at p0 p1 p2 p3 p4 h2
  rw [hok,errV_zero] at h2
  have HPs:Hid (∀ w',Below w.heap.size w w'→Calls Tryz.prog 5 #[.string s] w' fun e w''=>(∃ A9 c9 A' C' ys AE' ce',e=.returned (.tuple #[.agg #[.slice A9 n c9],.slice AE' ys.length ce',.int .i64 0,.nilIface])∧DimsV w'' A9 c9 n (dmL ds) A' C'∧EnsV w'' AE' ce' ys∧lE ys=lE xs)∧Below w'.heap.size w' w''):=fun w' hb=>(sparse_any s w' (HE.out.later hb) p0).mono fun e w'' ⟨_,h8,h9⟩=>⟨by have:=h8 p1;rw [p2,p3,p4] at this;exact this,h9⟩
  have hxn:xs.length≤3000:=by rw [←lE_len];exact hEns.few
  have hx4:∀ k,k<xs.length→(xs.getD k noL).e.pl.length≤4:=fun k hk=>by
   have:=(hEns.each (xs.getD k noL).e (by unfold lE;exact List.mem_map.2 ⟨_,enl_mem hk,rfl⟩)).1.len
   omega
  have HOut:Hid (∀ (A9:Option Addr) (c9:Nat) (A':Nat→Option Addr) (C':Nat→Nat) (w':World),Below w.heap.size w w'→DimsV w' A9 c9 n (dmL ds) A' C'→Calls Tryz.prog 7 #[.agg #[.slice A9 n c9],.agg #[.slice A0 n cap]] w' fun e w''=>e=.returned (.bool true)∧Below w'.heap.size w' w''):=fun A9 c9 A' C' w' hb hD=>by
   have h9:=HM.out.later hb
   rw [HN.out] at h9
   exact sameout_any A9 A0 c9 cap n (dmL ds) A' C' A C w' hn4 hd12 hD h9
  have HSE:Hid (∀ (AE':Option Addr) (ce':Nat) (ys:List EnL) (w':World),Below w.heap.size w w'→EnsV w' AE' ce' ys→lE ys=lE xs→Calls Tryz.prog 8 #[.slice AE' ys.length ce',.slice AE xl ce] w' fun e w''=>e=.returned (.bool true)∧Below w'.heap.size w' w''):=fun AE' ce' ys w' hb hE' he=>by
   have hyl:ys.length=xs.length:=by rw [←lE_len,he,lE_len]
   have hget:∀ k,(ys.getD k noL).e=(xs.getD k noL).e:=fun k=>by rw [←lE_at,←lE_at,he]
   have h9:=sameents_any AE' AE ce' ce ys xs w' he (by omega) (fun k hk=>by rw [hget];exact hx4 k (by omega)) hE' (HEn.out.later hb)
   rw [HXl.out] at h9
   exact h9
  clear p0 p1 p2 p3 p4 hok hru hEns hn4 hd12 hs hxn hx4
  go_wp2_with fail
  refine h2.mono ?_
  rintro e w2 ⟨rfl,hb2⟩
  have HB2:=hid_of (onB HB1.out (onB HBY.out hb2))
  have HA2:Hid (∀ w',Below w2.heap.size w2 w'→w'.cell? ⟨w.heap.size,0,none⟩=some (.slice A0 n cap)):=fun w' hb=>HA1.out w' (onB (onB HBY.out hb2) hb)
  have h3:=HPs.out w2 HB2.out
  clear h2 hb2
  go_wp2_with fail
  refine h3.mono ?_
  rintro e w3 ⟨⟨A9,c9,A',C',ys,AE',ce',rfl,hD9,hE9,hl9⟩,hb3⟩
  obtain ⟨Y2,hY2⟩:∃ Y2,w3.alloc (.cells #[.slice A9 n c9] 24)=Y2:=⟨_,rfl⟩
  have hbY:Below w3.heap.size w3 Y2:=by rw [←hY2];exact (Below.refl _ _).alloc (Nat.le_refl _) _
  have hcY:Y2.heap[w3.heap.size]?=some (.cells #[.slice A9 n c9] 24 (0,0)):=by rw [←hY2];exact heap_alloc_new ..
  have z0:Y2.cell? ⟨w3.heap.size,0,none⟩=some (.slice A9 n c9):=(Lib.cell_of_heap hcY 0).trans rfl
  have hBx:Below w2.heap.size w2 Y2:=onB hb3 hbY
  have zA:=HA2.out Y2 hBx
  have HBx:=hid_of (onB HB2.out hBx)
  have h4:=HOut.out A9 c9 A' C' Y2 HBx.out (hD9.later hbY)
  have HE9:=hid_of (hE9.later hbY)
  have HL9:=hid_of hl9
  obtain ⟨yl,hyl⟩:∃ yl,ys.length=yl:=⟨_,rfl⟩
  have HYl:=hid_of hyl
  rw [hyl]
  clear h3 hb3 hD9 hE9 hl9 hbY hcY hBx hyl
  go_wp2_with fail
  refine h4.mono ?_
  rintro e w4 ⟨rfl,hb4⟩
  have HB4:=hid_of (onB HBx.out hb4)
  have h5:=HSE.out AE' ce' ys w4 HB4.out (HE9.out.later hb4) HL9.out
  rw [HYl.out] at h5
  clear h4 hb4
  go_wp2_with fail
  refine h5.mono ?_
  rintro e w5 ⟨rfl,hb5⟩
  have HB5:=hid_of (onB HB4.out hb5)
  have h6:=HPt.out w5 HB5.out
  clear h5 hb5
  by_cases hpt:psE t=0
  ·have h7:Calls Tryz.prog 5 #[.string t] w5 fun e w''=>(∃ A8 c8 A' C' zs AE' ce',e=.returned (.tuple #[.agg #[.slice A8 (psN t) c8],.slice AE' zs.length ce',.int .i64 0,.nilIface])∧DimsV w'' A8 c8 (psN t) (psD t) A' C'∧EnsV w'' AE' ce' zs∧lE zs=psL t)∧Below w5.heap.size w5 w'':=h6.mono fun e w'' ⟨_,h8,h9⟩=>⟨h8 hpt,h9⟩
   obtain ⟨r1,r2⟩:=read_print hpt
   have HR1:=hid_of r1
   have HR2:=hid_of r2
   obtain ⟨pn,hpn⟩:∃ pn,psN t=pn:=⟨_,rfl⟩
   have HPn:=hid_of hpn
   rw [hpn] at h7
   clear h6 hpt r1 r2 hpn
   go_wp2_with fail
   refine h7.mono ?_
   rintro e w6 ⟨⟨A8,c8,A8',C8',zs,AE8,ce8,rfl,hD8,hE8,hl8⟩,hb6⟩
   obtain ⟨Y3,hY3⟩:∃ Y3,w6.alloc (.cells #[.slice A8 pn c8] 24)=Y3:=⟨_,rfl⟩
   have hbY:Below w6.heap.size w6 Y3:=by rw [←hY3];exact (Below.refl _ _).alloc (Nat.le_refl _) _
   have hcY:Y3.heap[w6.heap.size]?=some (.cells #[.slice A8 pn c8] 24 (0,0)):=by rw [←hY3];exact heap_alloc_new ..
   have v0:Y3.cell? ⟨w6.heap.size,0,none⟩=some (.slice A8 pn c8):=(Lib.cell_of_heap hcY 0).trans rfl
   have HB7:=hid_of (onB HB5.out (onB hb6 hbY))
   have h8:=sprint_any A8 c8 pn (psD t) A8' C8' AE8 ce8 zs Y3 (HE.out.later HB7.out).1 (hD8.later hbY) (hE8.later hbY)
   rw [hl8,←HPn.out,HR1.out,HR2.out,errV_zero,HPn.out] at h8
   obtain ⟨zl,hzl⟩:∃ zl,zs.length=zl:=⟨_,rfl⟩
   rw [hzl] at h8 ⊢
   clear h7 hb6 hD8 hE8 hl8 hbY hcY hzl
   go_wp2_with fail
   refine h8.mono ?_
   rintro e w7 ⟨rfl,hb7⟩
   have HB8:=hid_of (onB HB7.out hb7)
   clear h8 hb7
   go_wp2_with fail
   go_ret
   exact ⟨by simp,HB8.out⟩
  ·have h7:Calls Tryz.prog 5 #[.string t] w5 fun e w''=>e=.returned (.tuple #[.agg #[.slice none 0 0],.slice none 0 0,.int .i64 (psK t),.iface 70 (.int .i64 (psE t))])∧Below w5.heap.size w5 w'':=h6.mono fun e w'' ⟨h8,_,h9⟩=>⟨h8 hpt,h9⟩
   generalize psE t=pe at h7
   generalize psK t=pk at h7
   clear h6
   go_wp2_with fail
   refine h7.mono ?_
   rintro e w6 ⟨rfl,hb6⟩
   have HB7:=hid_of (onB HB5.out hb6)
   clear h7 hb6
   go_wp2_with fail
   go_ret
   exact ⟨rfl,HB7.out.alloc HB7.out.size _⟩
 ·rw [errV_some hok] at h2
  generalize shE (dmL ds) n (lE xs)=se at h2
  generalize shV (dmL ds) n (lE xs)=sv at h2
  clear hok HP
  go_wp2_with fail
  refine h2.mono ?_
  rintro e w5 ⟨rfl,hb5⟩
  have HB5:=hid_of (onB HB1.out (onB HBY.out hb5))
  have h6:=HPt.out w5 HB5.out
  clear h2 hb5
  by_cases hpt:psE t=0
  ·have h7:Calls Tryz.prog 5 #[.string t] w5 fun e w''=>(∃ A8 c8 A' C' zs AE' ce',e=.returned (.tuple #[.agg #[.slice A8 (psN t) c8],.slice AE' zs.length ce',.int .i64 0,.nilIface])∧DimsV w'' A8 c8 (psN t) (psD t) A' C'∧EnsV w'' AE' ce' zs∧lE zs=psL t)∧Below w5.heap.size w5 w'':=h6.mono fun e w'' ⟨_,h8,h9⟩=>⟨h8 hpt,h9⟩
   obtain ⟨r1,r2⟩:=read_print hpt
   have HR1:=hid_of r1
   have HR2:=hid_of r2
   obtain ⟨pn,hpn⟩:∃ pn,psN t=pn:=⟨_,rfl⟩
   have HPn:=hid_of hpn
   rw [hpn] at h7
   clear h6 hpt r1 r2 hpn
   go_wp2_with fail
   refine h7.mono ?_
   rintro e w6 ⟨⟨A8,c8,A8',C8',zs,AE8,ce8,rfl,hD8,hE8,hl8⟩,hb6⟩
   obtain ⟨Y3,hY3⟩:∃ Y3,w6.alloc (.cells #[.slice A8 pn c8] 24)=Y3:=⟨_,rfl⟩
   have hbY:Below w6.heap.size w6 Y3:=by rw [←hY3];exact (Below.refl _ _).alloc (Nat.le_refl _) _
   have hcY:Y3.heap[w6.heap.size]?=some (.cells #[.slice A8 pn c8] 24 (0,0)):=by rw [←hY3];exact heap_alloc_new ..
   have v0:Y3.cell? ⟨w6.heap.size,0,none⟩=some (.slice A8 pn c8):=(Lib.cell_of_heap hcY 0).trans rfl
   have HB7:=hid_of (onB HB5.out (onB hb6 hbY))
   have h8:=sprint_any A8 c8 pn (psD t) A8' C8' AE8 ce8 zs Y3 (HE.out.later HB7.out).1 (hD8.later hbY) (hE8.later hbY)
   rw [hl8,←HPn.out,HR1.out,HR2.out,errV_zero,HPn.out] at h8
   obtain ⟨zl,hzl⟩:∃ zl,zs.length=zl:=⟨_,rfl⟩
   rw [hzl] at h8 ⊢
   clear h7 hb6 hD8 hE8 hl8 hbY hcY hzl
   go_wp2_with fail
   refine h8.mono ?_
   rintro e w7 ⟨rfl,hb7⟩
   have HB8:=hid_of (onB HB7.out hb7)
   clear h8 hb7
   go_wp2_with fail
   go_ret
   exact ⟨by simp,HB8.out⟩
  ·have h7:Calls Tryz.prog 5 #[.string t] w5 fun e w''=>e=.returned (.tuple #[.agg #[.slice none 0 0],.slice none 0 0,.int .i64 (psK t),.iface 70 (.int .i64 (psE t))])∧Below w5.heap.size w5 w'':=h6.mono fun e w'' ⟨h8,_,h9⟩=>⟨h8 hpt,h9⟩
   generalize psE t=pe at h7
   generalize psK t=pk at h7
   clear h6
   go_wp2_with fail
   refine h7.mono ?_
   rintro e w6 ⟨rfl,hb6⟩
   have HB7:=hid_of (onB HB5.out hb6)
   clear h7 hb6
   go_wp2_with fail
   go_ret
   exact ⟨rfl,HB7.out.alloc HB7.out.size _⟩
theorem sback_law (A0:Option Addr) (cap n:Nat) (D:Nat→Dm) (A:Nat→Option Addr) (C:Nat→Nat) (AE:Option Addr) (ce:Nat) (xs:List EnL) (t:ByteArray) (w:World) (hE:EnvS w) (hM:DimsV w A0 cap n D A C) (hEn:EnsV w AE ce xs) (ht:t.size≤1048576) :
  Calls Tryz.prog 3 #[.agg #[.slice A0 n cap],.slice AE xs.length ce,.string t] w fun e w'=>e=.returned (.bool true)∧Below w.heap.size w w':=by
 have hM2:=rds_dims hM
 have hl:=rdsOf_len D n
 have h:=sback_ds A0 cap (rdsOf D n) A C AE ce xs t w hE (by rw [hl];exact hM2) hEn ht
 rw [hl] at h
 exact h
end Go.Proofs.YtpoklbfffgpbiaaGreatDoor
