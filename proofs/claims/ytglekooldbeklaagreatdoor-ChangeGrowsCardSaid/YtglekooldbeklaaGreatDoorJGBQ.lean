/-
  A change of a draft: what comes of a dim and of entries, and what is wrong; what the draft's method change answers, and what it leaves.
-/
import Derived.Test.YtglekooldbeklaaGreatDoorJGBP
namespace Go.Proofs.YtglekooldbeklaaGreatDoor
open Go.ChangeShapes Go.WideShapes Go.ChangeAt Go.RowKit Go.Lib
set_option maxRecDepth 100000
structure Chg where
 what:Int
 dim:Int
 mb:Int
 name:ByteArray
 tgt:Int
 sign:Int
def chgV (c:Chg):Value:=.agg #[.int .i64 c.what,.int .i64 c.dim,.int .i64 c.mb,.string c.name,.int .i64 c.tgt,.int .i64 c.sign]
def newM (c:Chg):Mem:=⟨c.name,c.tgt,c.sign,⟨#[]⟩⟩
def cgE (d:Dm) (l:List En) (k:Nat) (c:Chg):Int :=
 if c.what=1 then addE d l k (newM c)
 else if c.mb<0∨(d.n:Int)≤c.mb then 1
 else if c.what=2 then remE d c.mb.toNat
 else if c.what=3 then renE d c.mb.toNat c.name
 else if c.what=4 then moveE d l k c.mb.toNat c.tgt
 else if c.what=5 then resE c.sign
 else 1
def cgD (d:Dm) (c:Chg):Dm :=
 if c.what=1 then addD d (newM c)
 else if c.what=2 then remD d c.mb.toNat
 else if c.what=3 then renD d c.mb.toNat c.name
 else if c.what=4 then movD d c.mb.toNat c.tgt
 else resD d c.mb.toNat c.sign
def cgL (l:List En) (k:Nat) (c:Chg):List En:=if c.what=2 then remL l k (c.mb.toNat:Int) else l
set_option maxHeartbeats 8000000 in
theorem change_any (B q g cd n k ge ce:Nat) (D:Nat→Dm) (G C:Nat→Nat) (ys:List EnL) (c:Chg) (w0 w:World) (hB0:w0.heap.size=B) (hE:TabE w0) (hBw:Below B w0 w) (hB:B≤w.heap.size) (hn:(D k).n≤12) (htr:Tr (D k).mem (D k).n) (hfo:∀ j,j<(D k).n→((D k).mem j).formula.size=0∨(((D k).mem j).formula.size≤100∧prsE ((D k).mem j).formula=0)) (hpl:∀ y∈ys,0≤y.e.pl.getD k 0∧y.e.pl.getD k 0≤12) (h:DrA w B q g cd n k ge ce D G C ys) :
  Calls Tryz.prog 18 #[.pointer (some ⟨q,0,none⟩),chgV c] w (MPost w B q g cd n k ge ce D (cgE (D k) (lE ys) k c) (cgD (D k) c) (cgL (lE ys) k c)):=by
 obtain ⟨W,hW⟩:∃ W,w.alloc (.cells #[.int .i64 c.what,.int .i64 c.dim,.int .i64 c.mb,.string c.name,.int .i64 c.tgt,.int .i64 c.sign] 27)=W:=⟨_,rfl⟩
 have hBW:Below w.heap.size w W:=by rw [←hW];go_grown
 have hWs:W.heap.size=w.heap.size+1:=by rw [←hW];simp
 have kb:W.heap[w.heap.size]?=some (.cells #[.int .i64 c.what,.int .i64 c.dim,.int .i64 c.mb,.string c.name,.int .i64 c.tgt,.int .i64 c.sign] 27 (0,0)):=by rw [←hW];exact heap_alloc_new ..
 have hd:=h.later hBW
 obtain ⟨c0,c1,c2,-⟩:=hd.cells
 obtain ⟨-,-,d2,-⟩:=hd.dim
 have x0:W.cell? ⟨w.heap.size,0,none⟩=some (.int .i64 c.what):=(Lib.cell_of_heap kb 0).trans rfl
 have x2:W.cell? ⟨w.heap.size,2,none⟩=some (.int .i64 c.mb):=(Lib.cell_of_heap kb 2).trans rfl
 have x3:W.cell? ⟨w.heap.size,3,none⟩=some (.string c.name):=(Lib.cell_of_heap kb 3).trans rfl
 have x4:W.cell? ⟨w.heap.size,4,none⟩=some (.int .i64 c.tgt):=(Lib.cell_of_heap kb 4).trans rfl
 have x5:W.cell? ⟨w.heap.size,5,none⟩=some (.int .i64 c.sign):=(Lib.cell_of_heap kb 5).trans rfl
 have hBl:B≤W.heap.size:=by omega
 have hBW0:=hBw.trans (hBW.mono hB)
 have hUp:∀ E d' l' e w',MPost W B q g cd n k ge ce D E d' l' e w'→MPost w B q g cd n k ge ce D E d' l' e w':=fun E d' l' e w' ⟨p1,p2,p3⟩=>⟨p1,p2,(Lw.of hB hBW).trans p3⟩
 have HUp:=hid_of hUp
 have hBad:MPost W B q g cd n k ge ce D 1 (cgD (D k) c) (cgL (lE ys) k c) (.returned (errV 1)) W:=MPost.bad (by decide) hBl (Below.refl _ W)
 obtain ⟨what,dim,mb,name,tgt,sign⟩:=c
 simp only at x0 x2 x3 x4 x5 hW
 by_cases h1:what=1
 ·subst h1
  have hcon:=cadd_any B q g cd n k ge ce D G C ys (newM ⟨1,dim,mb,name,tgt,sign⟩) W hBl hn hd
  change Calls _ _ _ _ (MPost _ _ _ _ _ _ _ _ _ _ (addE _ _ _ _) (addD _ _) _) at hcon
  have HF:Hid (cgE (D k) (lE ys) k ⟨1,dim,mb,name,tgt,sign⟩=addE (D k) (lE ys) k (newM ⟨1,dim,mb,name,tgt,sign⟩)):=if_pos rfl
  unfold memV newM at hcon
  clear h hd kb hBad hUp hpl hfo htr hBw hBW hE
  unfold chgV
  go_enter Tryz.func18,Tryz.ntmps18
  go_wp2_with fail
  refine hcon.mono ?_
  rintro e w1 ⟨rfl,hp⟩
  have HP:=hid_of hp
  clear hp hcon
  go_wp2_with fail
  go_ret
  rw [HF.out]
  exact HUp.out _ _ _ _ _ ⟨rfl,HP.out⟩
 have h1b:(what == 1)=false:=by simpa using h1
 have hS1:∀ d l k',cgE d l k' ⟨what,dim,mb,name,tgt,sign⟩=if mb<0∨(d.n:Int)≤mb then 1 else if what=2 then remE d mb.toNat else if what=3 then renE d mb.toNat name else if what=4 then moveE d l k' mb.toNat tgt else if what=5 then resE sign else 1:=fun d l k'=>if_neg h1
 by_cases hm:mb<0∨((D k).n:Int)≤mb
 ·have hE1:Hid (cgE (D k) (lE ys) k ⟨what,dim,mb,name,tgt,sign⟩=1):=by show _=_;rw [hS1,if_pos hm]
  have HBd:=hid_of hBad
  generalize (D k).n=m at d2 hm
  clear h hd kb hBad hUp hpl hfo htr hBw hBW hE hS1 h1 hn
  unfold chgV
  by_cases hm0:mb<0
  ·clear hm
   go_enter Tryz.func18,Tryz.ntmps18
   go_upto_region 3 with fail
   go_quiet (fail)
   have HQ:=hid_of (below_drewN (Below.refl W.heap.size W) nq)
   go_wp2_with fail
   go_ret
   rw [hE1.out]
   exact HUp.out _ _ _ _ _ (MPost.bad (by decide) hBl HQ.out)
  ·have hm1:0≤mb:=by omega
   have hm2:(m:Int)≤mb:=by omega
   clear hm hm0
   go_enter Tryz.func18,Tryz.ntmps18
   go_upto_region 3 with fail
   go_quiet (fail)
   have HQ:=hid_of (below_drewN (Below.refl W.heap.size W) nq)
   go_wp2_with fail
   go_ret
   rw [hE1.out]
   exact HUp.out _ _ _ _ _ (MPost.bad (by decide) hBl HQ.out)
 obtain ⟨i,rfl⟩:∃ i:Nat,mb=i:=⟨mb.toNat,by omega⟩
 have hi:i<(D k).n:=by omega
 have hm1:0≤(i:Int):=by omega
 have hm2:(i:Int)<((D k).n:Int):=by omega
 have hS2:∀ d l k',(d.n=(D k).n)→cgE d l k' ⟨what,dim,i,name,tgt,sign⟩=if what=2 then remE d i else if what=3 then renE d i name else if what=4 then moveE d l k' i tgt else if what=5 then resE sign else 1:=fun d l k' hdn=>by
  rw [hS1,if_neg (by rw [hdn];omega),Int.toNat_natCast]
 have hS3:=hS2 (D k) (lE ys) k rfl
 have hD3:cgD (D k) ⟨what,dim,i,name,tgt,sign⟩=if what=2 then remD (D k) i else if what=3 then renD (D k) i name else if what=4 then movD (D k) i tgt else resD (D k) i sign:=by
  unfold cgD
  rw [if_neg h1]
  simp only [Int.toNat_natCast]
 have hL3:cgL (lE ys) k ⟨what,dim,i,name,tgt,sign⟩=if what=2 then remL (lE ys) k (i:Int) else lE ys:=by
  unfold cgL
  simp only [Int.toNat_natCast]
 have HUp2:Hid (∀ w1 E d' l' e w',Below W.heap.size W w1→MPost w1 B q g cd n k ge ce D E d' l' e w'→MPost w B q g cd n k ge ce D E d' l' e w'):=fun w1 E d' l' e w' hb ⟨p1,p2,p3⟩=>⟨p1,p2,((Lw.of hB hBW).trans (Lw.of hBl hb)).trans p3⟩
 have HXs:Hid (∀ w1,Below W.heap.size W w1→w1.cell? ⟨w.heap.size,0,none⟩=some (.int .i64 what)∧w1.cell? ⟨w.heap.size,2,none⟩=some (.int .i64 (i:Int))∧w1.cell? ⟨w.heap.size,3,none⟩=some (.string name)∧w1.cell? ⟨w.heap.size,4,none⟩=some (.int .i64 tgt)∧w1.cell? ⟨w.heap.size,5,none⟩=some (.int .i64 sign)):=fun w1 hb=>by
  have hl:w.heap.size<W.heap.size:=by omega
  exact ⟨(hb.cell (p:=⟨w.heap.size,0,none⟩) hl).trans x0,(hb.cell (p:=⟨w.heap.size,2,none⟩) hl).trans x2,(hb.cell (p:=⟨w.heap.size,3,none⟩) hl).trans x3,(hb.cell (p:=⟨w.heap.size,4,none⟩) hl).trans x4,(hb.cell (p:=⟨w.heap.size,5,none⟩) hl).trans x5⟩
 by_cases h2:what=2
 ·subst h2
  have HCon:Hid (∀ w1,Below W.heap.size W w1→Calls Tryz.prog 37 #[.pointer (some ⟨q,0,none⟩),.int .i64 i] w1 (MPost w1 B q g cd n k ge ce D (remE (D k) i) (remD (D k) i) (remL (lE ys) k (i:Int)))):=fun w1 hb=>remove_any B q g cd n k ge ce D G C ys i w1 (Nat.le_trans hBl hb.size) hi hn htr hpl (hd.later hb)
  have HE3:Hid (cgE (D k) (lE ys) k ⟨2,dim,i,name,tgt,sign⟩=remE (D k) i∧cgD (D k) ⟨2,dim,i,name,tgt,sign⟩=remD (D k) i∧cgL (lE ys) k ⟨2,dim,i,name,tgt,sign⟩=remL (lE ys) k (i:Int)):=⟨by first | exact hS3 | (rw [hS3];rfl),by first | exact hD3 | (rw [hD3];rfl),by first | exact hL3 | (rw [hL3];rfl)⟩
  generalize (D k).n=m at d2 hm2
  clear h hd kb hBad hUp hpl hfo htr hBw hBW hE hS1 hS2 hS3 hD3 hL3 h1 hn hm hi hBW0 HUp hB0
  unfold chgV
  go_enter Tryz.func18,Tryz.ntmps18
  go_upto_region 3 with fail
  go_quiet (fail)
  have HQ:=hid_of (below_drewN (Below.refl W.heap.size W) nq)
  generalize W.drewN nq=wq at HQ
  obtain ⟨y0,y2,y3,y4,y5⟩:=HXs.out wq HQ.out
  have hcon:=HCon.out wq HQ.out
  clear x0 x2 x3 x4 x5 c0 c1 c2 d2
  go_wp2_with fail
  refine hcon.mono ?_
  rintro e w1 ⟨rfl,hp⟩
  have HP:=hid_of hp
  clear hp hcon
  go_wp2_with fail
  go_ret
  rw [HE3.out.1,HE3.out.2.1,HE3.out.2.2]
  exact HUp2.out wq _ _ _ _ _ HQ.out ⟨rfl,HP.out⟩
 have h2b:(what == 2)=false:=by simpa using h2
 rw [if_neg h2] at hS3
 rw [if_neg h2] at hD3 hL3
 by_cases h3:what=3
 ·subst h3
  have HCon:Hid (∀ w1,Below W.heap.size W w1→Calls Tryz.prog 38 #[.pointer (some ⟨q,0,none⟩),.int .i64 i,.string name] w1 (MPost w1 B q g cd n k ge ce D (renE (D k) i name) (renD (D k) i name) (lE ys))):=fun w1 hb=>rename_any B q g cd n k ge ce D G C ys i name w0 w1 hB0 hE (hBW0.trans (hb.mono hBl)) (Nat.le_trans hBl hb.size) hi hn hfo (hd.later hb)
  have HE3:Hid (cgE (D k) (lE ys) k ⟨3,dim,i,name,tgt,sign⟩=renE (D k) i name∧cgD (D k) ⟨3,dim,i,name,tgt,sign⟩=renD (D k) i name∧cgL (lE ys) k ⟨3,dim,i,name,tgt,sign⟩=lE ys):=⟨by first | exact hS3 | (rw [hS3];rfl),by first | exact hD3 | (rw [hD3];rfl),by first | exact hL3 | (rw [hL3];rfl)⟩
  generalize (D k).n=m at d2 hm2
  clear h hd kb hBad hUp hpl hfo htr hBw hBW hE hS1 hS2 hS3 hD3 hL3 h1 hn hm hi hBW0 HUp hB0
  unfold chgV
  go_enter Tryz.func18,Tryz.ntmps18
  go_upto_region 3 with fail
  go_quiet (fail)
  have HQ:=hid_of (below_drewN (Below.refl W.heap.size W) nq)
  generalize W.drewN nq=wq at HQ
  obtain ⟨y0,y2,y3,y4,y5⟩:=HXs.out wq HQ.out
  have hcon:=HCon.out wq HQ.out
  clear x0 x2 x3 x4 x5 c0 c1 c2 d2
  go_wp2_with fail
  refine hcon.mono ?_
  rintro e w1 ⟨rfl,hp⟩
  have HP:=hid_of hp
  clear hp hcon
  go_wp2_with fail
  go_ret
  rw [HE3.out.1,HE3.out.2.1,HE3.out.2.2]
  exact HUp2.out wq _ _ _ _ _ HQ.out ⟨rfl,HP.out⟩
 have h3b:(what == 3)=false:=by simpa using h3
 rw [if_neg h3] at hS3
 rw [if_neg h3] at hD3
 by_cases h4:what=4
 ·subst h4
  have HCon:Hid (∀ w1,Below W.heap.size W w1→Calls Tryz.prog 39 #[.pointer (some ⟨q,0,none⟩),.int .i64 i,.int .i64 tgt] w1 (MPost w1 B q g cd n k ge ce D (moveE (D k) (lE ys) k i tgt) (movD (D k) i tgt) (lE ys))):=fun w1 hb=>move_any B q g cd n k ge ce D G C ys i tgt w1 (Nat.le_trans hBl hb.size) hi hn (hd.later hb)
  have HE3:Hid (cgE (D k) (lE ys) k ⟨4,dim,i,name,tgt,sign⟩=moveE (D k) (lE ys) k i tgt∧cgD (D k) ⟨4,dim,i,name,tgt,sign⟩=movD (D k) i tgt∧cgL (lE ys) k ⟨4,dim,i,name,tgt,sign⟩=lE ys):=⟨by first | exact hS3 | (rw [hS3];rfl),by first | exact hD3 | (rw [hD3];rfl),by first | exact hL3 | (rw [hL3];rfl)⟩
  generalize (D k).n=m at d2 hm2
  clear h hd kb hBad hUp hpl hfo htr hBw hBW hE hS1 hS2 hS3 hD3 hL3 h1 hn hm hi hBW0 HUp hB0
  unfold chgV
  go_enter Tryz.func18,Tryz.ntmps18
  go_upto_region 3 with fail
  go_quiet (fail)
  have HQ:=hid_of (below_drewN (Below.refl W.heap.size W) nq)
  generalize W.drewN nq=wq at HQ
  obtain ⟨y0,y2,y3,y4,y5⟩:=HXs.out wq HQ.out
  have hcon:=HCon.out wq HQ.out
  clear x0 x2 x3 x4 x5 c0 c1 c2 d2
  go_wp2_with fail
  refine hcon.mono ?_
  rintro e w1 ⟨rfl,hp⟩
  have HP:=hid_of hp
  clear hp hcon
  go_wp2_with fail
  go_ret
  rw [HE3.out.1,HE3.out.2.1,HE3.out.2.2]
  exact HUp2.out wq _ _ _ _ _ HQ.out ⟨rfl,HP.out⟩
 have h4b:(what == 4)=false:=by simpa using h4
 rw [if_neg h4] at hS3
 rw [if_neg h4] at hD3
 by_cases h5:what=5
 ·subst h5
  have HCon:Hid (∀ w1,Below W.heap.size W w1→Calls Tryz.prog 40 #[.pointer (some ⟨q,0,none⟩),.int .i64 i,.int .i64 sign] w1 (MPost w1 B q g cd n k ge ce D (resE sign) (resD (D k) i sign) (lE ys))):=fun w1 hb=>resign_any B q g cd n k ge ce D G C ys i sign w1 (Nat.le_trans hBl hb.size) hi hn (hd.later hb)
  have HE3:Hid (cgE (D k) (lE ys) k ⟨5,dim,i,name,tgt,sign⟩=resE sign∧cgD (D k) ⟨5,dim,i,name,tgt,sign⟩=resD (D k) i sign∧cgL (lE ys) k ⟨5,dim,i,name,tgt,sign⟩=lE ys):=⟨by first | exact hS3 | (rw [hS3];rfl),by first | exact hD3 | (rw [hD3];rfl),by first | exact hL3 | (rw [hL3];rfl)⟩
  generalize (D k).n=m at d2 hm2
  clear h hd kb hBad hUp hpl hfo htr hBw hBW hE hS1 hS2 hS3 hD3 hL3 h1 hn hm hi hBW0 HUp hB0
  unfold chgV
  go_enter Tryz.func18,Tryz.ntmps18
  go_upto_region 3 with fail
  go_quiet (fail)
  have HQ:=hid_of (below_drewN (Below.refl W.heap.size W) nq)
  generalize W.drewN nq=wq at HQ
  obtain ⟨y0,y2,y3,y4,y5⟩:=HXs.out wq HQ.out
  have hcon:=HCon.out wq HQ.out
  clear x0 x2 x3 x4 x5 c0 c1 c2 d2
  go_wp2_with fail
  refine hcon.mono ?_
  rintro e w1 ⟨rfl,hp⟩
  have HP:=hid_of hp
  clear hp hcon
  go_wp2_with fail
  go_ret
  rw [HE3.out.1,HE3.out.2.1,HE3.out.2.2]
  exact HUp2.out wq _ _ _ _ _ HQ.out ⟨rfl,HP.out⟩
 have h5b:(what == 5)=false:=by simpa using h5
 rw [if_neg h5] at hS3
 have HE1:Hid (cgE (D k) (lE ys) k ⟨what,dim,i,name,tgt,sign⟩=1):=hS3
 generalize (D k).n=m at d2 hm2
 clear h hd kb hBad hUp hpl hfo htr hBw hBW hE hS1 hS2 hS3 hD3 hL3 h1 hn hm hi hBW0 HUp hB0 h2 h3 h4 h5
 unfold chgV
 go_enter Tryz.func18,Tryz.ntmps18
 go_upto_region 3 with fail
 go_quiet (fail)
 have HQ:=hid_of (below_drewN (Below.refl W.heap.size W) nq)
 generalize W.drewN nq=wq at HQ
 obtain ⟨y0,y2,y3,y4,y5⟩:=HXs.out wq HQ.out
 clear x0 x2 x3 x4 x5 c0 c1 c2 d2
 go_wp2_with fail
 go_ret
 rw [HE1.out]
 exact HUp2.out wq _ _ _ _ _ HQ.out (MPost.bad (by decide) (Nat.le_trans hBl HQ.out.size) (Below.refl _ _))
end Go.Proofs.YtglekooldbeklaaGreatDoor
