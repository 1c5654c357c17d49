/-
  A member's line taken (package sheet's takeMember), in whatever memory.
-/
import Derived.Test.YtinebmjpdkjooaaGreatDoorJZBC
namespace Go.Proofs.YtinebmjpdkjooaaGreatDoor
open Go Go.ChangeShapes Go.WideShapes Go.ChangeAt Go.RowKit
set_option maxRecDepth 20000
def addMS (S:RdQ) (m:Mem):RdQ:=⟨addM S.dims m,S.pl,S.num,S.first⟩
theorem DrV.mem {q gd cd g cg:Nat} {S:RdQ} {A:Nat→Option Addr} {C:Nat→Nat} {vc:Value} {w wa w1:World} {m:Mem} (h:DrV q S A C (.slice (some ⟨gd,0,none⟩) S.dims.length cd) vc w) (hn:0<S.dims.length) (hb:Below w.heap.size w wa)
  (hown:w1.ownsRow (q+1) 46 4 (.slice (some ⟨g,0,none⟩) ((dmL S.dims (S.dims.length-1)).n+1) cg) ((dmL S.dims (S.dims.length-1)).n+1) (cellsMb (dmL S.dims (S.dims.length-1)).mem (dmL S.dims (S.dims.length-1)).n ++ [.string m.name,.int .i64 m.parent,.int .i64 m.sign,.string m.formula]))
  (hgrow:wa.grownBy w1 (Value.slice (A (S.dims.length-1)) (dmL S.dims (S.dims.length-1)).n (C (S.dims.length-1))).ownBlock) (hat:(Value.slice (A (S.dims.length-1)) (dmL S.dims (S.dims.length-1)).n (C (S.dims.length-1))).ownBlock=some g∨wa.heap.size≤g) :
  (∃ A' C',DrV q (addMS S m) A' C' (.slice (some ⟨gd,0,none⟩) S.dims.length cd) vc (w1.setCell ⟨gd,(S.dims.length-1)*3+2,none⟩ (.slice (some ⟨g,0,none⟩) ((dmL S.dims (S.dims.length-1)).n+1) cg)))∧Below q w (w1.setCell ⟨gd,(S.dims.length-1)*3+2,none⟩ (.slice (some ⟨g,0,none⟩) ((dmL S.dims (S.dims.length-1)).n+1) cg)):=by
 have hq:=h.lt
 obtain ⟨hgd0,hgd1,curd,hgd2⟩:=own_blk h.dm.dims (b:=gd) rfl
 have hl:S.dims.length-1<S.dims.length:=by omega
 have hkeep:∀ (b:Nat) (cs:Array Value) (fr:Nat×Nat) (t:Nat),w.heap[b]?=some (Obj.cells cs t fr)→t≠46→w1.heap[b]?=w.heap[b]?:=fun b cs fr t hx ht=>by
  have hlt:=(Array.getElem?_eq_some_iff.1 hx).1
  exact (hgrow.block b (Nat.lt_of_lt_of_le hlt hb.size) fun e=>own_ne (h.dm.mems _ hl) hx ht e.symm).trans (hb.block b hlt)
 have h1:=h.dm.more hn hb hown hgrow hat
 refine ⟨⟨_,_,⟨?_,h1,?_,h.num⟩⟩,?_⟩
 ·rw [setCell_off _ _ _ _ _ (by omega)]
  exact (hkeep q _ _ _ h.box (by decide)).trans h.box
 ·have e:cellsW (addMS S m) S.pl.length=cellsW S S.pl.length:=cellsW_cg (S:=addMS S m) (S':=S) rfl _ fun _ _=>⟨rfl,rfl⟩
  show World.ownsRow _ _ _ _ _ S.pl.length (cellsW (addMS S m) S.pl.length)
  rw [e]
  refine own_kept h.cells fun b hx=>?_
  obtain ⟨h1,-,cur,h3⟩:=own_blk h.cells hx
  rw [setCell_off _ _ _ _ _ fun e=>by
   subst e
   rw [hgd2] at h3
   exact absurd (Obj.cells.inj (Option.some.inj h3)).2.1 (by decide)]
  exact hkeep b cur _ _ h3 (by decide)
 ·have hb':Below q w wa:=hb.mono (by omega)
  have hb2:Below q w w1:=hb'.grown hgrow (by have:=hb.size;omega) fun k hk=>by have:=((h.dm.mems _ hl).lt k hk).1;omega
  exact hb2.setCell (by show q≤gd;omega) _
theorem DrV.memL {q gd cd g cg l k cm:Nat} {S:RdQ} {A:Nat→Option Addr} {C:Nat→Nat} {vc:Value} {w wa w1:World} {nm fo:ByteArray} {x sg:Int} {XS:List Value} {Am:Option Addr} (h:DrV q S A C (.slice (some ⟨gd,0,none⟩) S.dims.length cd) vc w) (hl:S.dims.length=l+1) (hk:(dmL S.dims l).n=k) (hX:cellsMb (dmL S.dims l).mem k=XS) (hA:A l=Am) (hC:C l=cm) (hb:Below w.heap.size w wa)
  (hown:w1.ownsRow (q+1) 46 4 (.slice (some ⟨g,0,none⟩) (k+1) cg) (k+1) (XS ++ [.string nm,.int .i64 x,.int .i64 sg,.string fo]))
  (hgrow:wa.grownBy w1 (Value.slice Am k cm).ownBlock) (hat:(Value.slice Am k cm).ownBlock=some g∨wa.heap.size≤g) :
  (∃ A' C' vd',DrV q (addMS S ⟨nm,x,sg,fo⟩) A' C' vd' vc (w1.setCell ⟨gd,l*3+2,none⟩ (.slice (some ⟨g,0,none⟩) (k+1) cg)))∧Below q w (w1.setCell ⟨gd,l*3+2,none⟩ (.slice (some ⟨g,0,none⟩) (k+1) cg)):=by
 have e:S.dims.length-1=l:=by omega
 subst e hk hX hA hC
 obtain ⟨⟨A',C',h1⟩,h2⟩:=DrV.mem (m:=⟨nm,x,sg,fo⟩) h (by omega) hb hown hgrow hat
 exact ⟨⟨A',C',_,h1⟩,h2⟩
theorem Tryz.infoMemP:(Tryz.prog.info? 46).map (fun i=>(i.zero,i.size,i.bytes))=some (some (.agg #[.string ⟨#[]⟩,.int .i64 0,.int .i64 0,.string ⟨#[]⟩]),4,48):=by kernel_rfl
set_option maxHeartbeats 8000000 in
theorem stmem_good (q:Nat) (S:RdQ) (A:Nat→Option Addr) (C:Nat→Nat) (vd vc:Value) (nm pa tl:ByteArray) (x:Int) (w:World) (h:DrV q S A C vd vc w) (hn:S.dims.length≤1048577) (hm:(dmL S.dims (S.dims.length-1)).n≤1048577) (hnm:nm.size≤1048576) (hfo:(foS tl).size≤1048576)
  (h1:Calls Tryz.prog 108 #[.string pa] w fun e w'=>e=.returned (.tuple #[.int .i64 x,.bool true])∧Below w.heap.size w w')
  (h2:∀ w,Calls Tryz.prog 109 #[.string tl] w fun e w'=>e=.returned (.tuple #[.int .i64 (sgI tl),.string (foS tl),.bool true])∧Below w.heap.size w w')
  (h3:∀ w,Calls Tryz.prog 106 #[.string nm] w fun e w'=>e=.returned (.bool true)∧Below w.heap.size w w') (hd:0<S.dims.length) (hp:S.pl.length=0) :
  Calls Tryz.prog 75 #[.pointer (some ⟨q,0,none⟩),.string nm,.string pa,.string tl] w fun e w'=>e=.returned (.bool true)∧Below q w w'∧∃ A' C' vd' vc',DrV q (addMS S ⟨nm,x,sgI tl,foS tl⟩) A' C' vd' vc' w':=by
 have hqs:=h.lt
 obtain ⟨i0,hi0,hz0,hz1,hz2⟩:=info_parts Tryz.infoMemP
 obtain ⟨gd,cd,hvd,hgd0,hgd1⟩:=h.dm.dims.form hd
 obtain ⟨Ac,cc,hvc⟩:=own_formK h.cells
 subst hvd hvc
 have HV:=hid_of h
 obtain ⟨l,hl⟩:∃ l,S.dims.length=l+1:=⟨S.dims.length-1,by omega⟩
 have hl1:S.dims.length-1=l:=by omega
 have HL:=hid_of hl
 have hdc:=h.dm.dims
 have hat:=(cellsDo_at (dmL S.dims) A C S.dims.length l (by omega)).2.2
 have k2:=hdc.cellAt (l*3+2) (by omega)
 rw [hat] at k2
 have k3:=hdc.frozenAt (l*3+2)
 have c0:w.cell? ⟨q,0,none⟩=some (.slice (some ⟨gd,0,none⟩) S.dims.length cd):=(Lib.cell_of_heap h.box 0).trans rfl
 have c1:w.cell? ⟨q,1,none⟩=some (.slice Ac S.pl.length cc):=(Lib.cell_of_heap h.box 1).trans rfl
 rw [hl] at c0
 have hmo:=h.dm.mems l (by omega)
 rw [hl1] at hm
 obtain ⟨m,hmm⟩:∃ m,(dmL S.dims l).n=m:=⟨_,rfl⟩
 obtain ⟨XS,hXS⟩:∃ XS,cellsMb (dmL S.dims l).mem m=XS:=⟨_,rfl⟩
 rw [hmm] at k2 hmo hm
 rw [hXS] at hmo
 have HM:=hid_of hmm
 have HX:=hid_of hXS
 obtain ⟨Am,hAm⟩:∃ Am,A l=Am:=⟨_,rfl⟩
 obtain ⟨cm,hcm⟩:∃ cm,C l=cm:=⟨_,rfl⟩
 rw [hAm,hcm] at k2 hmo
 have HA:=hid_of hAm
 have HCm:=hid_of hcm
 have hgdw:=hgd1
 have HCC:Hid (∀ w',Below w.heap.size w w'→w'.cell? ⟨q,0,none⟩=some (.slice (some ⟨gd,0,none⟩) (l+1) cd)∧w'.cell? ⟨q,1,none⟩=some (.slice Ac S.pl.length cc)∧w'.cell? ⟨gd,l*3+2,none⟩=some (.slice Am m cm)∧w'.frozen? ⟨gd,l*3+2,none⟩=false):=fun w' hb=>⟨(hb.cell (p:=⟨q,0,none⟩) hqs).trans c0,(hb.cell (p:=⟨q,1,none⟩) hqs).trans c1,(hb.cell (p:=⟨gd,l*3+2,none⟩) hgd1).trans k2,(hb.frozen (p:=⟨gd,l*3+2,none⟩) hgd1).trans k3⟩
 have HO:=hid_of hmo
 have HNE:Hid (some gd≠(Value.slice Am m cm).ownBlock):=fun e=>by
  obtain ⟨-,-,curd,hgd2⟩:=own_blk hdc (b:=gd) rfl
  exact own_ne hmo hgd2 (by decide) e.symm
 have hl5:(l:Int)≤1048577:=by omega
 have hm5:(m:Int)≤1048577:=by omega
 have hp1:((S.pl.length:Nat):Int)=0:=by omega
 generalize S.pl.length=pl at HCC hp1
 generalize sgI tl=sg at h2
 generalize foS tl=fo at h2 hfo
 have HCl:Hid (∀ s:ByteArray,s=nm∨s=fo→∀ w',Calls Tryz.prog 107 #[.string s] w' fun e w''=>e=.returned (.string s)∧Below w'.heap.size w' w''):=fun s hs w'=>sclone_any s w' (by rcases hs with rfl | rfl <;> omega)
 clear c0 c1 k2 k3 hmo hat hdc h hd hp hl hl1 hmm hXS hAm hcm hn hgd0
 go_enter Tryz.func75,Tryz.ntmps75
 go_wp2_with fail
 refine h1.mono ?_
 rintro e w1 ⟨rfl,hb1⟩
 go_wp2_with fail
 refine (h2 _).mono ?_
 rintro e w2 ⟨rfl,hb2⟩
 have HB2:=hid_of (onB hb1 hb2)
 clear hb1 hb2
 go_wp2_with fail
 refine (h3 _).mono ?_
 rintro e w3 ⟨rfl,hb3⟩
 have HB3:=hid_of (onB HB2.out hb3)
 clear hb3
 obtain ⟨x1,x2,x3,x4⟩:=HCC.out _ HB3.out
 have hwl:IntKind.i64.wrap (l:Int)=(l:Int):=IntWalk.i64_in _ (by omega)
 have hl6:(l:Int)<(l:Int)+1:=by omega
 go_wp2_with fail
 go_quiet (fail)
 have hgr:gd<w3.heap.size:=Nat.lt_of_lt_of_le hgdw HB3.out.size
 have HBq:=hid_of (below_drewN (Below.refl w3.heap.size w3) nq)
 have HC2:Hid (∀ w',Below w3.heap.size w3 w'→w'.cell? ⟨gd,l*3+2,none⟩=some (.slice Am m cm)∧w'.frozen? ⟨gd,l*3+2,none⟩=false):=fun w' hb=>⟨(hb.cell (p:=⟨gd,l*3+2,none⟩) hgr).trans x3,(hb.frozen (p:=⟨gd,l*3+2,none⟩) hgr).trans x4⟩
 have HB4:=hid_of (onB HB3.out HBq.out)
 have x34:=HC2.out _ HBq.out
 have hgr4:gd<(w3.drewN nq).heap.size:=Nat.lt_of_lt_of_le hgr HBq.out.size
 generalize w3.drewN nq=wr at HB4 x34 hgr4
 obtain ⟨x5,x6⟩:=x34
 have HC3:Hid (∀ w',Below wr.heap.size wr w'→w'.cell? ⟨gd,l*3+2,none⟩=some (.slice Am m cm)∧w'.frozen? ⟨gd,l*3+2,none⟩=false):=fun w' hb=>⟨(hb.cell (p:=⟨gd,l*3+2,none⟩) hgr4).trans x5,(hb.frozen (p:=⟨gd,l*3+2,none⟩) hgr4).trans x6⟩
 have HO2:=hid_of (own_later HO.out HB4.out)
 have hqg:q+1≤wr.heap.size:=Nat.le_trans hqs HB4.out.size
 clear x1 x2 x3 x4 HC2 HBq hgr
 go_wp2_with fail
 go_region_law ((first
  | (refine step_append_lies _ (by rfl) _ _ _ (by rfl) (q+1) 46 i0 _ 4 48 Tryz.underlying41 hi0 hz0 hz1 hz2 rfl (by omega) (.slice Am m cm) m XS (by rfl) (own_stays HO2.out (by go_grown)) ⟨w5.heap.size,0,none⟩ 1 1 [.string nm,.int .i64 x,.int .i64 sg,.string fo] (by rfl) (by rfl) (World.news_of_block (cs := #[.string nm,.int .i64 x,.int .i64 sg,.string fo]) (t:=46) (fr:=(0,0)) (heap_alloc_new w5 _)) (by simp [Value.oneCell']) (by omega) (by unfold maxLen;omega) (by omega) (by simp;omega) (w5.heap.size+1) (by simp) ?_;intro gg cg w6 hown6 hgrow hat hlt6;have y1:=(hgrow.cell_far ⟨gd,l*3+2,none⟩ (by simp;omega) HNE.out).trans (HC3.out _ (by go_grown)).1;have y2:=(hgrow.frozen_far ⟨gd,l*3+2,none⟩ (by simp;omega) HNE.out).trans (HC3.out _ (by go_grown)).2)
  | (go_simp;refine (HCl.out _ (by first | exact Or.inl rfl | exact Or.inr rfl) _).mono ?_;rintro e w5 ⟨rfl,hb5⟩;have hN5:=onB (W0:=wr) (by go_grown) hb5;have hs5:=hN5.size;obtain ⟨z1,z2⟩:=HC3.out _ hN5;have hq5:gd<w5.heap.size:=Nat.lt_of_lt_of_le hgr4 hs5;clear hb5)))
 all_goals (have hS:=DrV.memL (HV.out.later HB4.out) HL.out HM.out HX.out HA.out HCm.out (by go_grown) hown6 hgrow (hat.imp id (by intro e;simp;omega)))
 all_goals (have HS:=hid_of hS)
 all_goals clear hown6 hgrow hS hN5
 all_goals go_wp2_with fail
 all_goals go_ret
 all_goals (obtain ⟨⟨A',C',vd',hS⟩,hB⟩:=HS.out)
 all_goals exact ⟨rfl,(HB4.out.mono (by omega)).trans hB,A',C',vd',_,hS⟩
def memOk (S:RdQ) (nm pa tl:ByteArray):Bool:=paOk pa && sgOk tl && nmW nm && decide (0<S.dims.length) && decide (S.pl.length=0)
set_option maxHeartbeats 8000000 in
theorem stmem_any (q:Nat) (S:RdQ) (A:Nat→Option Addr) (C:Nat→Nat) (vd vc:Value) (nm pa tl:ByteArray) (w:World) (h:DrV q S A C vd vc w) (hE:EnvS w) (hn:S.dims.length≤1048577) (hm:(dmL S.dims (S.dims.length-1)).n≤1048577) (hnm:nm.size≤1048576) (hpa:pa.size≤1048576) (htl:tl.size≤1048576) :
  Calls Tryz.prog 75 #[.pointer (some ⟨q,0,none⟩),.string nm,.string pa,.string tl] w fun e w'=>e=.returned (.bool (memOk S nm pa tl))∧Below q w w'∧(memOk S nm pa tl=true→∃ A' C' vd' vc',DrV q (addMS S ⟨nm,paI pa,sgI tl,foS tl⟩) A' C' vd' vc' w'):=by
 have h1:=sparent_any pa w hE hpa
 have h2:=fun w=>stail_any tl w htl
 have h3:=fun w=>sname_any nm w hnm
 have hqs:=h.lt
 have HQ:Hid (∀ w',Below w.heap.size w w'→Below q w w'):=fun w' hb=>hb.mono (by omega)
 by_cases hok:memOk S nm pa tl=true
 ·rw [hok]
  have hok':=hok
  unfold memOk at hok'
  simp only [Bool.and_eq_true,decide_eq_true_eq] at hok'
  obtain ⟨⟨⟨⟨k1,k2⟩,k3⟩,k4⟩,k5⟩:=hok'
  rw [k1,par_ok k1] at h1
  simp only [k2,k3] at h2 h3
  have hfo:(foS tl).size≤1048576:=by
   unfold foS
   split
   ·rw [ByteArray.size_extract];omega
   ·exact Nat.zero_le _
  refine (stmem_good q S A C vd vc nm pa tl (paI pa) w h hn hm hnm hfo h1 (fun w=>(h2 w).mono fun e w' ⟨⟨a,f,he,hf⟩,hb⟩=>⟨by obtain ⟨rfl,rfl⟩:=hf trivial;exact he,hb⟩) h3 k4 k5).mono fun e w' ⟨he,hb,hD⟩=>⟨he,hb,fun _=>hD⟩
 ·have hok2:memOk S nm pa tl=false:=by simpa using hok
  rw [hok2]
  suffices hs:Calls Tryz.prog 75 #[.pointer (some ⟨q,0,none⟩),.string nm,.string pa,.string tl] w fun e w'=>e=.returned (.bool false)∧Below q w w' from hs.mono fun e w' ⟨he,hb⟩=>⟨he,hb,fun h=>by cases h⟩
  unfold memOk at hok2
  cases k1:paOk pa with
  | false =>
   rw [k1] at h1
   generalize parI pa=x at h1
   generalize sgOk tl=b at h2
   clear hok hok2 h hE k1 h3
   go_enter Tryz.func75,Tryz.ntmps75
   go_wp2_with fail
   refine h1.mono ?_
   rintro e w1 ⟨rfl,hb1⟩
   go_wp2_with fail
   refine (h2 _).mono ?_
   rintro e w2 ⟨⟨a,f,rfl,-⟩,hb2⟩
   have HB2:=HQ.out _ (onB hb1 hb2)
   go_wp2_with fail
   go_ret
   exact ⟨rfl,HB2⟩
  | true =>
   rw [k1] at h1 hok2
   generalize parI pa=x at h1
   cases k2:sgOk tl with
   | false =>
    simp only [k2] at h2
    clear hok hok2 h hE k1 k2 h3
    go_enter Tryz.func75,Tryz.ntmps75
    go_wp2_with fail
    refine h1.mono ?_
    rintro e w1 ⟨rfl,hb1⟩
    go_wp2_with fail
    refine (h2 _).mono ?_
    rintro e w2 ⟨⟨a,f,rfl,-⟩,hb2⟩
    have HB2:=HQ.out _ (onB hb1 hb2)
    go_wp2_with fail
    go_ret
    exact ⟨rfl,HB2⟩
   | true =>
    simp only [k2] at h2 hok2
    cases k3:nmW nm with
    | false =>
     simp only [k3] at h3
     clear hok hok2 h hE k1 k2 k3
     go_enter Tryz.func75,Tryz.ntmps75
     go_wp2_with fail
     refine h1.mono ?_
     rintro e w1 ⟨rfl,hb1⟩
     go_wp2_with fail
     refine (h2 _).mono ?_
     rintro e w2 ⟨⟨a,f,rfl,-⟩,hb2⟩
     have HB2:=hid_of (onB hb1 hb2)
     clear hb1 hb2
     go_wp2_with fail
     refine (h3 _).mono ?_
     rintro e w3 ⟨rfl,hb3⟩
     have HB3:=HQ.out _ (onB HB2.out hb3)
     go_wp2_with fail
     go_ret
     exact ⟨rfl,HB3⟩
    | true =>
     simp only [k3,Bool.true_and,Bool.and_self] at h3 hok2
     obtain ⟨Ad,cd,hvd⟩:=own_formK h.dm.dims
     obtain ⟨Ac,cc,hvc⟩:=own_formK h.cells
     subst hvd hvc
     have c0:w.cell? ⟨q,0,none⟩=some (.slice Ad S.dims.length cd):=(Lib.cell_of_heap h.box 0).trans rfl
     have c1:w.cell? ⟨q,1,none⟩=some (.slice Ac S.pl.length cc):=(Lib.cell_of_heap h.box 1).trans rfl
     have HC:Hid (∀ w',Below w.heap.size w w'→w'.cell? ⟨q,0,none⟩=some (.slice Ad S.dims.length cd)∧w'.cell? ⟨q,1,none⟩=some (.slice Ac S.pl.length cc)):=fun w' hb=>⟨(hb.cell (p:=⟨q,0,none⟩) hqs).trans c0,(hb.cell (p:=⟨q,1,none⟩) hqs).trans c1⟩
     clear c0 c1
     by_cases k4:S.dims.length=0
     ·rw [k4] at HC
      clear hok hok2 h hE k1 k2 k3 k4
      go_enter Tryz.func75,Tryz.ntmps75
      go_wp2_with fail
      refine h1.mono ?_
      rintro e w1 ⟨rfl,hb1⟩
      go_wp2_with fail
      refine (h2 _).mono ?_
      rintro e w2 ⟨⟨a,f,rfl,-⟩,hb2⟩
      have HB2:=hid_of (onB hb1 hb2)
      clear hb1 hb2
      go_wp2_with fail
      refine (h3 _).mono ?_
      rintro e w3 ⟨rfl,hb3⟩
      have HB3:=hid_of (onB HB2.out hb3)
      obtain ⟨x1,x2⟩:=HC.out _ HB3.out
      clear hb3
      go_wp2_with fail
      go_ret
      exact ⟨rfl,HQ.out _ HB3.out⟩
     ·have k5:S.pl.length≠0:=fun e=>by
       have h4:decide (0<S.dims.length)=true:=decide_eq_true (by omega)
       have h5:decide (S.pl.length=0)=true:=decide_eq_true e
       rw [h4,h5] at hok2
       cases hok2
      have k6:((S.dims.length:Int) == 0)=false:=beq_eq_false_iff_ne.2 (by omega)
      have k7:(0:Int)<(S.pl.length:Int):=by omega
      generalize S.dims.length=dn at HC k6
      generalize S.pl.length=pn at HC k7
      clear hok hok2 h hE k1 k2 k3 k4 k5
      go_enter Tryz.func75,Tryz.ntmps75
      go_wp2_with fail
      refine h1.mono ?_
      rintro e w1 ⟨rfl,hb1⟩
      go_wp2_with fail
      refine (h2 _).mono ?_
      rintro e w2 ⟨⟨a,f,rfl,-⟩,hb2⟩
      have HB2:=hid_of (onB hb1 hb2)
      clear hb1 hb2
      go_wp2_with fail
      refine (h3 _).mono ?_
      rintro e w3 ⟨rfl,hb3⟩
      have HB3:=hid_of (onB HB2.out hb3)
      obtain ⟨x1,x2⟩:=HC.out _ HB3.out
      clear hb3
      go_wp2_with fail
      go_ret
      exact ⟨rfl,HQ.out _ HB3.out⟩
theorem cellsOf_get {W:List ByteArray} {N k:Nat} (hk:k<W.length):(Lib.cellsOf W N)[k]?=some (.string (wdB W k)):=by
 unfold Lib.cellsOf wdB
 simp [List.getElem?_append_left,hk,List.getD]
def kindB (W:List ByteArray):Nat:=if isB (wdB W 0) [100,105,109]=true∧W.length=3 then 1 else if isB (wdB W 0) [109,101,109]=true∧W.length=4 then 2 else if isB (wdB W 0) [99,101,108,108]=true∧W.length=3 then 3 else 0
theorem kind_few {P W:List ByteArray} (h:FewW P W):kindB P=kindB W:=by
 obtain ⟨h1,h2,h3,h4⟩:=h
 by_cases h5:P.length≤4
 ·rw [h3 h5]
 ·have h6:=h4 (by omega)
  unfold kindB
  rw [if_neg (by omega),if_neg (by omega),if_neg (by omega),if_neg (by omega),if_neg (by omega),if_neg (by omega)]
theorem isB_two {x:ByteArray} {l l':List UInt8} (h:isB x l=true) (hl:l≠l'):isB x l'=false:=by
 unfold isB at h ⊢
 have h1:x.toList=l:=by simpa using h
 rw [h1]
 simpa using hl
theorem rd_none {S:RdQ} {i:Nat} {P:List ByteArray} (h:kindB P=0):rdLine S i P=(S,false):=by
 unfold kindB at h
 split at h
 ·cases h
 ·rename_i h1
  split at h
  ·cases h
  ·rename_i h2
   split at h
   ·cases h
   ·rename_i h3
    unfold rdLine dimB memB celB
    rw [if_neg,if_neg,if_neg]
    ·simp only [Bool.and_eq_true,decide_eq_true_eq];exact h3
    ·simp only [Bool.and_eq_true,decide_eq_true_eq];exact fun h=>h2 ⟨h.1.1.1,h.1.1.2⟩
    ·simp only [Bool.and_eq_true,decide_eq_true_eq];exact fun h=>h1 h.1
theorem kind_dim {P:List ByteArray} (h:kindB P=1):isB (wdB P 0) [100,105,109]=true∧P.length=3:=by
 unfold kindB at h
 split at h
 ·assumption
 ·split at h
  ·cases h
  ·split at h <;> cases h
theorem kind_mem {P:List ByteArray} (h:kindB P=2):isB (wdB P 0) [109,101,109]=true∧P.length=4:=by
 unfold kindB at h
 split at h
 ·cases h
 ·split at h
  ·assumption
  ·split at h <;> cases h
theorem kind_cel {P:List ByteArray} (h:kindB P=3):isB (wdB P 0) [99,101,108,108]=true∧P.length=3:=by
 unfold kindB at h
 split at h
 ·cases h
 ·split at h
  ·cases h
  ·split at h
   ·assumption
   ·cases h
theorem rd_dim {S:RdQ} {i:Nat} {P:List ByteArray} (h:kindB P=1):(rdLine S i P).2=(cntB (wdB P 2) && nmW (wdB P 1) && decide (S.pl.length=0))∧(S.pl.length=0→(rdLine S i P).1=⟨S.dims ++ [⟨wdB P 1,intI (wdB P 2),[]⟩],S.pl,S.num,S.first⟩):=by
 obtain ⟨h1,h2⟩:=kind_dim h
 by_cases hp:S.pl.length=0
 ·have e:rdLine S i P=(⟨S.dims ++ [⟨wdB P 1,intI (wdB P 2),[]⟩],S.pl,S.num,S.first⟩,intB (wdB P 2) && decide (0≤intI (wdB P 2)) && nmW (wdB P 1)):=by
   unfold rdLine
   rw [if_pos (by unfold dimB;simp [h1,h2,hp])]
  rw [e]
  refine ⟨?_,fun _=>rfl⟩
  rw [decide_eq_true hp,Bool.and_true]
  rfl
 ·have e:rdLine S i P=(S,false):=by
   unfold rdLine dimB memB celB
   rw [isB_two h1 (l':=[109,101,109]) (by decide),isB_two h1 (l':=[99,101,108,108]) (by decide),decide_eq_false hp]
   simp
  rw [e,decide_eq_false hp,Bool.and_false]
  exact ⟨rfl,fun h=>absurd h hp⟩
theorem rd_mem {S:RdQ} {i:Nat} {P:List ByteArray} (h:kindB P=2):(rdLine S i P).2=memOk S (wdB P 1) (wdB P 2) (wdB P 3)∧(memOk S (wdB P 1) (wdB P 2) (wdB P 3)=true→(rdLine S i P).1=addMS S ⟨wdB P 1,paI (wdB P 2),sgI (wdB P 3),foS (wdB P 3)⟩):=by
 obtain ⟨h1,h2⟩:=kind_mem h
 have hd:dimB S P=false:=by unfold dimB;rw [isB_two h1 (by decide)];rfl
 by_cases hp:S.pl.length=0∧0<S.dims.length
 ·have e:rdLine S i P=(⟨addM S.dims (memR P),S.pl,S.num,S.first⟩,nmW (wdB P 1) && paOk (wdB P 2) && sgOk (wdB P 3)):=by
   unfold rdLine
   rw [if_neg (by rw [hd];decide),if_pos (by unfold memB;simp [h1,h2,hp.1,hp.2])]
  rw [e]
  refine ⟨?_,fun _=>rfl⟩
  unfold memOk
  rw [decide_eq_true hp.1,decide_eq_true hp.2]
  cases nmW (wdB P 1) <;> cases paOk (wdB P 2) <;> cases sgOk (wdB P 3) <;> rfl
 ·have hmo:memOk S (wdB P 1) (wdB P 2) (wdB P 3)=false:=by
   unfold memOk
   by_cases hp0:S.pl.length=0
   ·rw [decide_eq_false (p:=0<S.dims.length) fun h=>hp ⟨hp0,h⟩]
    simp
   ·rw [decide_eq_false hp0,Bool.and_false]
  have e:rdLine S i P=(S,false):=by
   unfold rdLine
   rw [if_neg (by rw [hd];decide),if_neg,if_neg]
   ·unfold celB;rw [isB_two h1 (by decide)];simp
   ·unfold memB
    simp only [Bool.and_eq_true,decide_eq_true_eq]
    exact fun h=>hp ⟨h.1.2,h.2⟩
  rw [e,hmo]
  exact ⟨rfl,fun h=>by cases h⟩
theorem rd_cel {S:RdQ} {i:Nat} {P:List ByteArray} (h:kindB P=3):rdLine S i P=(addW S (wdB P 1) (intI (wdB P 2)) i,intB (wdB P 2) && (piecesC 46 (wdB P 1)).all nmW):=by
 obtain ⟨h1,h2⟩:=kind_cel h
 unfold rdLine dimB memB celB
 rw [isB_two h1 (l':=[100,105,109]) (by decide),isB_two h1 (l':=[109,101,109]) (by decide),h1,decide_eq_true h2]
 rfl
end Go.Proofs.YtinebmjpdkjooaaGreatDoor
