/-
  What package place tells, as plain functions on plain data: what is wrong with a place, its number, a number's place, its text, a text's place; and that each undoes the other.
-/
import Derived.Test.YtigkeokacagabagGreatDoorJZBR
import Derived.Test.YtigkeokacagabagGreatDoorJZBS
import Derived.Test.YtigkeokacagabagGreatDoorJZBT
namespace Go.Proofs.YtigkeokacagabagGreatDoor
def ofErr (D:Nat→Dm) (n:Nat) (x:Int):Int:=if (allErr D n).2.2≠0 then (allErr D n).2.2 else if x<0∨(prodN D n:Int)≤x then 1 else 0
theorem of0 {D:Nat→Dm} {n:Nat} {x:Int} (h:(allErr D n).2.2≠0):ofErr D n x=(allErr D n).2.2:=by unfold ofErr;rw [if_pos h]
theorem of1 {D:Nat→Dm} {n:Nat} {x:Int} (h:(allErr D n).2.2=0) (h1:x<0∨(prodN D n:Int)≤x):ofErr D n x=1:=by unfold ofErr;rw [if_neg (by simpa using h),if_pos h1]
theorem of2 {D:Nat→Dm} {n:Nat} {x:Int} (h:(allErr D n).2.2=0) (h1 : ¬ (x<0∨(prodN D n:Int)≤x)):ofErr D n x=0:=by unfold ofErr;rw [if_neg (by simpa using h),if_neg h1]
def ofL (D:Nat→Dm) (n:Nat) (x:Int):List Int:=if ofErr D n x=0 then placeL D n x.toNat else []
end Go.Proofs.YtigkeokacagabagGreatDoor
namespace Go.Proofs.YtigkeokacagabagGreatDoor
open Go.ChangeShapes Go.WideShapes Go.ChangeAt Go.RowKit
set_option maxRecDepth 20000
set_option maxHeartbeats 4000000 in
theorem pof_any (A0:Option Addr) (cap n:Nat) (D:Nat→Dm) (A:Nat→Option Addr) (C:Nat→Nat) (x:Int) (w:World) (hM:DimsV w A0 cap n D A C):Calls Tryz.prog 12 #[.agg #[.slice A0 n cap],.int .i64 x] w fun e w'=>(∃ A' c',e=.returned (.tuple #[.slice A' (ofL D n x).length c',errV (ofErr D n x)])∧PlAt w' A' c' (ofL D n x))∧Below w.heap.size w w':=by
 have hB0:=ownOut_below w A0 n cap 29
 have h:=pcells_any A0 cap n D A C (ownOut w A0 n cap 29) (hM.later hB0)
 have HB0:Hid (Below w.heap.size w (ownOut w A0 n cap 29)):=hB0
 have HM:Hid (DimsV w A0 cap n D A C):=hM
 clear hM hB0
 by_cases he:(allErr D n).2.2=0
 ·obtain ⟨hn1,hn4,hp3,hd⟩:=allErr_some he
  have hcv:cellsV D n=(prodN D n:Int):=by unfold cellsV;rw [if_pos he]
  rw [he,errV_zero,hcv] at h
  have HA:Hid ((allErr D n).2.2=0):=he
  clear he hcv
  by_cases hx:x<0∨(prodN D n:Int)≤x
  ·have HE:Hid (ofErr D n x=1):=of1 HA.out hx
   have HL:Hid (ofL D n x=[]):=by show _=_;unfold ofL;rw [HE.out];rfl
   generalize hpn:prodN D n=pn at h hx hp3
   by_cases hx0:x<0
   ·go_enter Tryz.func12,Tryz.ntmps12
    go_wp2_with fail
    refine h.mono ?_
    rintro e w1 ⟨rfl,hb1⟩
    go_wp2_with fail
    go_ret2
    rw [HL.out,HE.out]
    exact ⟨⟨none,0,rfl,PlAt.nil _ _ _⟩,onB HB0.out hb1⟩
   ·have hx1:(pn:Int)≤x:=by omega
    go_enter Tryz.func12,Tryz.ntmps12
    go_wp2_with fail
    refine h.mono ?_
    rintro e w1 ⟨rfl,hb1⟩
    go_wp2_with fail
    go_ret2
    rw [HL.out,HE.out]
    exact ⟨⟨none,0,rfl,PlAt.nil _ _ _⟩,onB HB0.out hb1⟩
  ·have HE:Hid (ofErr D n x=0):=of2 HA.out hx
   obtain ⟨X,rfl⟩:∃ X:Nat,x=X:=⟨x.toNat,by omega⟩
   have HL:Hid (ofL D n (X:Int)=placeL D n X):=by show _=_;unfold ofL;rw [if_pos HE.out];rfl
   have hX:X≤3000:=by omega
   have HD:Hid (∀ i,i<n→1≤(D i).n∧(D i).n≤12):=hd
   have hn':(n:Int)≤4:=by omega
   have hn1':(1:Int)≤(n:Int):=by omega
   have hxp:(X:Int)<(prodN D n:Int):=by omega
   have hmk:=run_make_row' (P:=Tryz.prog) 44 3 (.int .i64 0) 8 Tryz.underlying44 Tryz.infoIntP rfl .i64 .i64 n (by omega) (by omega)
   have hbx:decide ((X:Int)<0)=false:=decide_eq_false (by omega)
   have hbp:decide ((prodN D n:Int)≤(X:Int))=false:=decide_eq_false (by omega)
   have hbp':decide (prodN D n≤X)=false:=decide_eq_false (by omega)
   generalize hpn:prodN D n=pn at h hx hp3 hxp hbp hbp'
   clear hd hpn hx
   go_enter Tryz.func12,Tryz.ntmps12
   go_wp2_with fail
   refine h.mono ?_
   rintro e w1 ⟨rfl,hb1⟩
   have hB:Below w.heap.size w w1:=onB HB0.out hb1
   have hz:w.heap.size<w1.heap.size:=by have:=hb1.size;rw [ownOut_size] at this;omega
   have h2:w1.cell? ⟨w.heap.size,0,none⟩=some (.slice A0 n cap):=(hb1.cell (p:=⟨w.heap.size,0,none⟩) (by show w.heap.size<_;rw [ownOut_size];omega)).trans (ownOut_at ..)
   obtain ⟨hcap,h0 | ⟨b,o,rfl,hMs⟩⟩:=HM.out.later hB
   ·omega
   have HMs:Hid (DimsAt w1 b o n D A C):=hMs
   have HB:Hid (Below w.heap.size w w1):=hB
   clear hb1 h hMs hB
   go_wp2_with fail
   clear hmk
   go_loopg [1,9,10] n (fun g s1 s9 s10 wr => ∃ (r:Nat),r≤n∧g=n-r∧s9=.int .i64 ((n:Int)-1-r)∧s1=.int .i64 (restAt D n X r)∧IntB wr w1.heap.size (digL D n X r)∧Below w1.heap.size w1 wr)
   case atStart=>exact ⟨0,Nat.zero_le _,rfl,by simp,rfl,by rw [digL_zero];exact IntB.made w1 n,by go_grown⟩
   case round =>
    obtain ⟨r,hr,rfl,rfl,rfl,hI,hBw⟩:=hrel
    have HI:Hid (IntB wr w1.heap.size (digL D n X r)):=hI
    have HBw:Hid (Below w1.heap.size w1 wr):=hBw
    by_cases hlt:r<n
    ·obtain ⟨k,hk⟩:∃ k:Nat,k=n-1-r:=⟨_,rfl⟩
     have hki:(n:Int)-1-(r:Int)=(k:Int):=by omega
     rw [hki]
     have HK:Hid (k=n-1-r):=hk
     have hkn:k<n:=by omega
     obtain ⟨-,-,h3,-⟩:=(HMs.out.later hBw).2 k hkn
     have c2:wr.cell? ⟨w.heap.size,0,none⟩=some (.slice (some ⟨b,o,none⟩) n cap):=(hBw.cell (p:=⟨w.heap.size,0,none⟩) hz).trans h2
     have hkn':(k:Int)<(n:Int):=by omega
     have c4:=hI.cell (j:=k) (by rw [digL_len];exact hkn)
     have c5:=hI.frozen k
     obtain ⟨hd1,hd2⟩:=HD.out k hkn
     have hre:=restAt_le D n X r
     have HR1:Hid (restAt D n X (r+1)=restAt D n X r / (D k).n):=by show _=_;rw [restAt,hk]
     have HR2:Hid (digitAt D n X k=restAt D n X r % (D k).n):=by show _=_;rw [digitAt,show n-1-k=r by omega]
     have HS:Hid ((digL D n X r).set k (digitAt D n X k:Int)=digL D n X (r+1)):=by show _=_;rw [hk];exact digL_set D n X r hlt
     generalize (digL D n X r).getD k 0=old at c4
     generalize restAt D n X r=R at HR1 HR2 hre
     generalize hm:(D k).n=m at h3 hd1 hd2 HR1 HR2
     have hm1:(1:Int)≤(m:Int):=by omega
     have hm2:(m:Int)≤12:=by omega
     have hR:(R:Int)≤3000:=by omega
     have hR0:(0:Int)≤(R:Int):=by omega
     have hm0:((m:Int) == 0)=false:=by simp;omega
     clear hI hBw hk hki hm
     go_wp2_with fail
     go_roundg (n-(r+1))
     case measure=>omega
     case rel =>
      have hdm:=Nat.div_le_self R m
      have hw:wrap64 ((R:Int) / (m:Int))=((R / m:Nat):Int):=by
       rw [←Int.natCast_ediv]
       exact wrap_small (Nat.le_trans hdm (by omega))
      refine ⟨r+1,by omega,rfl,?_,?_,?_,HBw.out.setCell (by show w1.heap.size≤w1.heap.size;omega) _⟩
      ·have:=HK.out
       congr 1
       omega
      ·rw [hw,HR1.out]
      ·have hs:=HI.out.set k (digitAt D n X k:Int)
       rw [HS.out,HR2.out,Int.natCast_emod] at hs
       exact hs
    ·have hre:r=n:=by omega
     subst hre
     have hk0:(r:Int)-1-(r:Int) = -1:=by omega
     rw [hk0]
     clear hI hBw
     go_wp2_with fail
     go_ret2
     rw [HL.out,HE.out]
     have hp:=HI.out.pl
     rw [digL_all] at hp
     rw [placeL_len] at hp ⊢
     exact ⟨⟨_,_,rfl,hp⟩,onB HB.out HBw.out⟩
 ·have HE:Hid (ofErr D n x=(allErr D n).2.2):=of0 he
  have HL:Hid (ofL D n x=[]):=by show _=_;unfold ofL;rw [HE.out,if_neg he]
  have HV:Hid (errV (allErr D n).2.2=.iface 83 (.int .i64 (allErr D n).2.2)):=errV_some he
  rw [errV_some he] at h
  clear he
  generalize (allErr D n).2.2=c at h HE HV
  generalize cellsV D n=cv at h
  go_enter Tryz.func12,Tryz.ntmps12
  go_wp2_with fail
  refine h.mono ?_
  rintro e w1 ⟨rfl,hb1⟩
  go_wp2_with fail
  go_ret2
  rw [HL.out,HE.out,HV.out]
  exact ⟨⟨none,0,rfl,PlAt.nil _ _ _⟩,onB HB0.out hb1⟩
def ownOC (w:World) (A0:Option Addr) (n cap:Nat):World:=(ownOut w A0 n cap 29).alloc (.cells #[.int .i64 0,.int .i64 0] 32)
theorem ownOC_size (w:World) (A0:Option Addr) (n cap:Nat):(ownOC w A0 n cap).heap.size=w.heap.size+2:=by unfold ownOC;simp [ownOut_size]
theorem ownOC_below (w:World) (A0:Option Addr) (n cap:Nat):Below w.heap.size w (ownOC w A0 n cap):=by unfold ownOC ownOut;go_grown
theorem ownOC_o (w:World) (A0:Option Addr) (n cap:Nat):(ownOC w A0 n cap).cell? ⟨w.heap.size,0,none⟩=some (.slice A0 n cap):=by
 unfold ownOC
 rw [World.cell?_alloc_lt _ _ ⟨w.heap.size,0,none⟩ (by simp [ownOut_size])]
 exact ownOut_at ..
theorem ownOC_b (w:World) (A0:Option Addr) (n cap:Nat):(ownOC w A0 n cap).heap[w.heap.size+1]?=some (.cells #[.int .i64 0,.int .i64 0] 32):=by
 have h:=heap_alloc_new (ownOut w A0 n cap 29) (.cells #[.int .i64 0,.int .i64 0] 32)
 rw [ownOut_size] at h
 exact h
end Go.Proofs.YtigkeokacagabagGreatDoor
namespace Go.Proofs.YtigkeokacagabagGreatDoor
open Go.ChangeShapes Go.WideShapes Go.ChangeAt Go.RowKit
section
variable {D:Nat→Dm} {n:Nat}
noncomputable def coL (D:Nat→Dm) (n:Nat):List Int:=if (ruErr D n).2.2=0 then ordTo (rowsL D n) (prodN D n) else []
end
theorem At.new (k n:Int) (w:World) (T:Nat):At w.heap.size k n (w.alloc (.cells #[.int .i64 k,.int .i64 n] T)):=⟨by simp,by simp,by simp⟩
theorem At.set {s:Nat} {k n:Int} {w:World} {u v:Value} (hs:s<w.heap.size) (h0:w.cell? ⟨s,0,none⟩=some u) (h1:w.cell? ⟨s,1,none⟩=some v):At s k n ((w.setCell ⟨s,0,none⟩ (.int .i64 k)).setCell ⟨s,1,none⟩ (.int .i64 n)):=by
 refine ⟨by simpa using hs,?_,?_⟩ <;> simp [go_sem,h0,h1]
theorem of_in {n:Int} (h1 : -1000000000000≤n) (h2:n≤1000000000000) (w:World):Calls Tryz.prog 11 #[.int .i64 n] w fun e w'=>e=.returned (.agg #[.int .i64 1,.int .i64 n])∧Below w.heap.size w w':=by
 have h:=of_any n w
 rw [ofP_in h1 h2] at h
 exact h
end Go.Proofs.YtigkeokacagabagGreatDoor
namespace Go.Proofs.YtigkeokacagabagGreatDoor
open Go.ChangeShapes Go.WideShapes Go.ChangeAt Go.RowKit
set_option maxRecDepth 20000
def BolB (w:World) (g n:Nat) (f:Nat→Bool):Prop:=w.heap[g]?=some (.cells ((List.range n).map fun j=>Value.bool (f j)).toArray 4 (0,0))
theorem BolB.lt {w:World} {g n:Nat} {f:Nat→Bool} (h:BolB w g n f):g<w.heap.size:=(Array.getElem?_eq_some_iff.1 h).1
theorem BolB.cell {w:World} {g n:Nat} {f:Nat→Bool} (h:BolB w g n f) {j:Nat} (hj:j<n):w.cell? ⟨g,j,none⟩=some (.bool (f j)):=by
 rw [Lib.cell_of_heap h]
 simp [hj]
theorem BolB.frozen {w:World} {g n:Nat} {f:Nat→Bool} (h:BolB w g n f) (j:Nat):w.frozen? ⟨g,j,none⟩=false:=Lib.frozen_of_heap h j
theorem BolB.later {w w':World} {g n:Nat} {f:Nat→Bool} (h:BolB w g n f) (hB:Below w.heap.size w w'):BolB w' g n f:=(hB.block g h.lt).trans h
theorem BolB.set {w:World} {g n:Nat} {f f':Nat→Bool} (h:BolB w g n f) {m:Nat} (hf:∀ j,j<n→f' j=if j=m then true else f j):BolB (w.setCell ⟨g,m,none⟩ (.bool true)) g n f':=by
 unfold BolB at *
 simp only [World.setCell,Array.getElem?_modify,if_true,h,Option.map_some,Option.some.injEq,Obj.cells.injEq,and_true,Option.isSome_none,Bool.false_eq_true,if_false]
 apply Array.ext_getElem?
 intro j
 rw [Array.getElem?_setIfInBounds]
 by_cases hj:j<n
 ·by_cases e:m=j
  ·rw [if_pos e,if_pos (by simp;omega)]
   simp [hj,hf j hj,e]
  ·have e':j≠m:=fun x=>e x.symm
   rw [if_neg e]
   simp only [List.getElem?_toArray,List.getElem?_map,List.getElem?_range hj,Option.map_some,hf j hj,if_neg e']
 ·by_cases e:m=j
  ·rw [if_pos e,if_neg (by simp;omega),Array.getElem?_eq_none (by simp;omega)]
  ·rw [if_neg e,Array.getElem?_eq_none (by simp;omega),Array.getElem?_eq_none (by simp;omega)]
theorem BolB.made (w:World) (n:Nat):BolB (w.alloc (.cells (madeCells #[.bool false] n) 4)) w.heap.size n fun _=>false:=by
 unfold BolB
 have e:madeCells #[.bool false] n=((List.range n).map fun _=>Value.bool false).toArray:=by
  apply Array.ext
  ·simp [madeCells]
  ·intro i h1 h2
   simp [madeCells,Nat.mod_one]
 rw [e]
 exact heap_alloc_new w _
theorem below_set {B:Nat} {w0 w:World} {g j:Nat} {v:Value} (h:Below B w0 w) (hg:B≤g):Below B w0 (w.setCell ⟨g,j,none⟩ v):=by
 refine ⟨h.os,h.tape,h.output,by simpa [World.setCell] using h.size,fun k hk=>?_⟩
 rw [←h.block k hk]
 simp only [World.setCell,Array.getElem?_modify]
 rw [if_neg (by omega)]
theorem Tryz.infoBol:(Tryz.prog.info? 4).map (fun i=>(i.zero,i.size,i.bytes))=some (some (.bool false),1,1):=by kernel_rfl
def inF (L:List Int) (j:Nat):Bool:=L.contains (j:Int)
theorem inF_next {L:List Int} {m:Nat} (j:Nat):inF (L ++ [(m:Int)]) j=if j=m then true else inF L j:=by
 unfold inF
 by_cases e:j=m
 ·subst e
  rw [if_pos rfl,List.contains_iff_mem]
  simp
 ·rw [if_neg e,Bool.eq_iff_iff,List.contains_iff_mem,List.contains_iff_mem,List.mem_append,List.mem_singleton]
  exact ⟨fun h=>h.resolve_right (by omega),Or.inl⟩
def FrC (gC gT:Nat) (w w':World):Prop:=Kept w.heap.size (fun k=>k=gC∨k=gT) w w'
theorem FrC.refl (gC gT:Nat) (w:World):FrC gC gT w w:=Kept.refl _ _ _
theorem FrC.trans {gC gT:Nat} {w w1 w2:World} (h:FrC gC gT w w1) (k:FrC gC gT w1 w2):FrC gC gT w w2:=⟨k.os.trans h.os,k.tape.trans h.tape,k.output.trans h.output,Nat.le_trans h.size k.size,fun i hi hx=>(k.block i (Nat.lt_of_lt_of_le hi h.size) hx).trans (h.block i hi hx)⟩
theorem frC_below {gC gT:Nat} {w w':World} (h:Below w.heap.size w w'):FrC gC gT w w':=kept_below h (Nat.le_refl _)
theorem frC_drew {gC gT:Nat} {w w':World} (h:FrC gC gT w w'):FrC gC gT w w'.drew:=⟨h.os,h.tape,h.output,h.size,h.block⟩
theorem intT_frC {gC gT:Nat} {w w':World} {A:Option Addr} {c:Nat} {L:List Int} (h:IntT w A c L) (k:FrC gC gT w w') (h1:∀ cs fr,w.heap[gC]?≠some (.cells cs 3 fr)) (h2:∀ cs fr,w.heap[gT]?≠some (.cells cs 3 fr)):IntT w' A c L :=
 h.keep fun b cs fr hb=>k.block b (Array.getElem?_eq_some_iff.1 hb).1 (by
  rintro (e | e)
  ·exact h1 cs fr (by rw [←e];exact hb)
  ·exact h2 cs fr (by rw [←e];exact hb))
def StC (wB:World) (qc qp n gC cC gT:Nat) (D:Nat→Dm) (inp:List Int→Int×Int) (f:Nat→Bool) (w:World):Prop :=
 Below wB.heap.size wB w∧w.heap[qc]?=some (.cells #[.pointer (some ⟨qp,0,none⟩),.slice (some ⟨gC,0,none⟩) (prodN D n) cC,.slice (some ⟨gT,0,none⟩) (prodN D n) (prodN D n)] 85 (0,0))∧∃ L,CelB w gC L∧L.length=prodN D n∧BolB w gT (prodN D n) f∧∀ j,j<prodN D n→(f j=true→L.getD j noC=solV D n inp (placeL D n j))∧(f j=false→L.getD j noC=inp (placeL D n j))
structure CtxA (wB:World) (qc qp g n gC cC gT:Nat) (D:Nat→Dm) (X:Nat→AL) (inp:List Int→Int×Int):Prop where
 hE:(allErr D n).2.2=0
 hR:AllR D n
 hA:PlanV wB qp g n D X
 hg:∀ p,goodC (inp p)
 hq:wB.heap.size≤qc
 hC:wB.heap.size≤gC
 hT:wB.heap.size≤gT
 hcc:prodN D n≤cC
 hc63:cC≤3000
section
variable {wB:World} {qc qp g n gC cC gT:Nat} {D:Nat→Dm} {X:Nat→AL} {inp:List Int→Int×Int} {f:Nat→Bool}
theorem StC.lts {w:World} (h:StC wB qc qp n gC cC gT D inp f w):qc<w.heap.size∧gC<w.heap.size∧gT<w.heap.size∧wB.heap.size≤w.heap.size:=by
 obtain ⟨h1,h2,L,h3,-,h4,-⟩:=h
 exact ⟨(Array.getElem?_eq_some_iff.1 h2).1,h3.lt,h4.lt,h1.size⟩
theorem StC.ne {w:World} (h:StC wB qc qp n gC cC gT D inp f w):qc≠gC∧qc≠gT∧gC≠gT:=by
 obtain ⟨-,h2,L,⟨cur,h3,-⟩,-,h4,-⟩:=h
 unfold BolB at h4
 refine ⟨fun e=>?_,fun e=>?_,fun e=>?_⟩
 ·rw [e,h3] at h2;simp at h2
 ·rw [e,h4] at h2;simp at h2
 ·rw [e,h4] at h3;simp at h3
theorem StC.offI {w:World} (h:StC wB qc qp n gC cC gT D inp f w):(∀ cs fr,w.heap[gC]?≠some (.cells cs 3 fr))∧∀ cs fr,w.heap[gT]?≠some (.cells cs 3 fr):=by
 obtain ⟨-,-,L,⟨cur,h3,-⟩,-,h4,-⟩:=h
 unfold BolB at h4
 refine ⟨fun cs fr e=>?_,fun cs fr e=>?_⟩
 ·rw [h3] at e;simp at e
 ·rw [h4] at e;simp at e
theorem StC.next {w0 w1 w2:World} {f0:Nat→Bool} (h0:StC wB qc qp n gC cC gT D inp f0 w0) (h:StC wB qc qp n gC cC gT D inp f w1) (hB:Below w0.heap.size w1 w2):StC wB qc qp n gC cC gT D inp f w2:=by
 obtain ⟨l1,l2,l3,l4⟩:=h0.lts
 obtain ⟨h1,h2,L,h3,h5,h4,h6⟩:=h
 exact ⟨⟨hB.os.trans h1.os,hB.tape.trans h1.tape,hB.output.trans h1.output,Nat.le_trans h1.size hB.size,fun i hi=>(hB.block i (by omega)).trans (h1.block i hi)⟩,(hB.block qc l1).trans h2,L,h3.same (hB.block gC l2),h5,(hB.block gT l3).trans h4,h6⟩
theorem StC.drew {w:World} (h:StC wB qc qp n gC cC gT D inp f w):StC wB qc qp n gC cC gT D inp f w.drew:=h.next h (below_drewN (Below.refl _ _) 1)
theorem StC.cells {w:World} (h:StC wB qc qp n gC cC gT D inp f w):w.cell? ⟨qc,0,none⟩=some (.pointer (some ⟨qp,0,none⟩))∧w.cell? ⟨qc,1,none⟩=some (.slice (some ⟨gC,0,none⟩) (prodN D n) cC)∧w.cell? ⟨qc,2,none⟩=some (.slice (some ⟨gT,0,none⟩) (prodN D n) (prodN D n)):=by
 obtain ⟨-,hq,-⟩:=h
 exact ⟨by simp [World.cell?,hq],by simp [World.cell?,hq],by simp [World.cell?,hq]⟩
theorem StC.put {w:World} (h:StC wB qc qp n gC cC gT D inp f w) {x:Nat} (hx:x<prodN D n) {ra rb:Int} (hv:solV D n inp (placeL D n x)=(ra,rb)) (h1:wB.heap.size≤gC) (h2:wB.heap.size≤gT):StC wB qc qp n gC cC gT D inp (fun j=>if j=x then true else f j) (((w.setCell ⟨gC,x*2,none⟩ (.int .i64 ra)).setCell ⟨gC,x*2+1,none⟩ (.int .i64 rb)).setCell ⟨gT,x,none⟩ (.bool true)):=by
 obtain ⟨n1,n2,n3⟩:=h.ne
 obtain ⟨hB,hq,L,hC,hL,hT,hI⟩:=h
 refine ⟨below_set (below_set (below_set hB h1) h1) h2,?_,L.set x (ra,rb),?_,by rw [List.length_set];exact hL,?_,fun j hj=>?_⟩
 ·rw [setCell_off _ _ _ _ _ n2,setCell_off _ _ _ _ _ n1,setCell_off _ _ _ _ _ n1]
  exact hq
 ·exact (hC.set (by omega) ra rb).same (setCell_off _ _ _ _ _ n3)
 ·refine BolB.set (f:=f) ?_ fun j _=>rfl
  unfold BolB at hT ⊢
  rw [setCell_off _ _ _ _ _ n3.symm,setCell_off _ _ _ _ _ n3.symm]
  exact hT
 ·by_cases e:j=x
  ·subst e
   refine ⟨fun _=>?_,fun h=>by simp at h⟩
   rw [List.getD_eq_getElem?_getD,List.getElem?_set_self (by omega)]
   exact hv.symm
  ·simp only [if_neg e]
   rw [List.getD_eq_getElem?_getD,List.getElem?_set_ne (fun h=>e h.symm),←List.getD_eq_getElem?_getD]
   exact hI j hj
theorem frC_put {w y:World} {x:Nat} {a b c:Value} (h:FrC gC gT w y):FrC gC gT w (((y.setCell ⟨gC,x*2,none⟩ a).setCell ⟨gC,x*2+1,none⟩ b).setCell ⟨gT,x,none⟩ c):=⟨h.os,h.tape,h.output,by simp only [World.size_setCell];exact h.size,fun i hi hx=>by
 rw [setCell_off _ _ _ _ _ (fun e=>hx (Or.inr e)),setCell_off _ _ _ _ _ (fun e=>hx (Or.inl e)),setCell_off _ _ _ _ _ (fun e=>hx (Or.inl e))]
 exact h.block i hi hx⟩
theorem nds_near (hX:CtxA wB qc qp g n gC cC gT D X inp) {x:Nat} (hx:x<prodN D n) {z:Int} (hz:z∈ndsX D n x):∃ y:Nat,z=(y:Int)∧y<prodN D n∧msrTo D (placeL D n y) n<msrTo D (placeL D n x) n:=by
 have hP:=placeL_in (D:=D) (n:=n) (x:=x) hX.hE
 rcases by_in D (placeL D n x) n with h | ⟨b,h,hb⟩
 ·rw [nds_leaf (by omega)] at hz;cases hz
 ·have hp0:=hP.lo b hb
  have hp1:=hP.hi b hb
  have hm:((placeL D n x).getD b 0).toNat<(D b).n:=by omega
  rw [nds_by h,List.mem_map] at hz
  obtain ⟨k,hk,rfl⟩:=hz
  have hk1:=(neW_mem (hX.hR b hb) hm k).1 hk
  have hk2:=mNd_in hk1
  obtain ⟨y,e1,e2,e3,-⟩:=putN_at hX.hE hb hx hk2.1 hk2.2
  refine ⟨y,e1,e2,?_⟩
  rw [e3]
  have hrk:=rk_less (hX.hR b hb) hm hk1
  rw [Int.toNat_of_nonneg hp0] at hrk
  exact (msr_less (by rw [hP.len];exact hb) hrk n).2 hb
end
section
variable {wB:World} {qc qp g n gC cC gT:Nat} {D:Nat→Dm} {X:Nat→AL} {inp:List Int→Int×Int}
set_option maxHeartbeats 4000000 in
theorem ctell_told (hX:CtxA wB qc qp g n gC cC gT D X inp) (x:Nat) (f:Nat→Bool) (w:World) (hx:x<prodN D n) (hS:StC wB qc qp n gC cC gT D inp f w) (hf:f x=true) :
  Calls Tryz.prog 38 #[.pointer (some ⟨qc,0,none⟩),.int .i64 x] w fun e w'=>e=.returned .nilIface∧w'=w:=by
 obtain ⟨-,-,hp3,-⟩:=allErr_some hX.hE
 obtain ⟨l1,l2,l3,-⟩:=hS.lts
 obtain ⟨c0,c1,c2⟩:=hS.cells
 obtain ⟨-,-,L,-,-,hT,-⟩:=hS
 have ct:=hT.cell hx
 rw [hf] at ct
 generalize prodN D n=N at *
 have hNI:(N:Int)≤3000:=by omega
 have hxI:(x:Int)<(N:Int):=by omega
 clear hX hT hf
 go_enter Tryz.func38,Tryz.ntmps38
 go_wp2_with fail
 go_ret
 exact ⟨rfl,rfl⟩
set_option maxHeartbeats 16000000 in
theorem ctell_new (hX:CtxA wB qc qp g n gC cC gT D X inp) (x:Nat) (f:Nat→Bool) (w:World) (hx:x<prodN D n) (hS:StC wB qc qp n gC cC gT D inp f w) (hf:f x=false)
  (ih:∀ (y:Nat) (f1:Nat→Bool) (w1:World),y<prodN D n→msrTo D (placeL D n y) n<msrTo D (placeL D n x) n→StC wB qc qp n gC cC gT D inp f1 w1→Calls Tryz.prog 38 #[.pointer (some ⟨qc,0,none⟩),.int .i64 y] w1 fun e w2=>e=.returned .nilIface∧∃ f2,StC wB qc qp n gC cC gT D inp f2 w2∧(∀ j,f1 j=true→f2 j=true)∧f2 y=true∧FrC gC gT w1 w2) :
  Calls Tryz.prog 38 #[.pointer (some ⟨qc,0,none⟩),.int .i64 x] w fun e w'=>e=.returned .nilIface∧∃ f2,StC wB qc qp n gC cC gT D inp f2 w'∧(∀ j,f j=true→f2 j=true)∧f2 x=true∧FrC gC gT w w':=by
 obtain ⟨hn1,hn4,hp3,hd⟩:=allErr_some hX.hE
 obtain ⟨l1,l2,l3,-⟩:=hS.lts
 obtain ⟨c0,c1,c2⟩:=hS.cells
 have HX:Hid (CtxA wB qc qp g n gC cC gT D X inp):=hX
 have HS:Hid (StC wB qc qp n gC cC gT D inp f w):=hS
 have HIh:Hid (∀ (y:Nat) (f1:Nat→Bool) (w1:World),y<prodN D n→msrTo D (placeL D n y) n<msrTo D (placeL D n x) n→StC wB qc qp n gC cC gT D inp f1 w1→Calls Tryz.prog 38 #[.pointer (some ⟨qc,0,none⟩),.int .i64 y] w1 fun e w2=>e=.returned .nilIface∧∃ f2,StC wB qc qp n gC cC gT D inp f2 w2∧(∀ j,f1 j=true→f2 j=true)∧f2 y=true∧FrC gC gT w1 w2):=ih
 have hnd:=pneeds_any qp g n D X x w hX.hR hX.hE hx (hX.hA.later hS.1)
 obtain ⟨-,-,L0,-,-,hT0,-⟩:=id hS
 have ct:=hT0.cell hx
 rw [hf] at ct
 have HXx:Hid (x<prodN D n):=hx
 have hcc:=hX.hcc
 have hc63:=hX.hc63
 obtain ⟨N,hN⟩:∃ N,prodN D n=N:=⟨_,rfl⟩
 have HN:Hid (prodN D n=N):=hN
 rw [hN] at hx hp3 c1 c2 hcc
 have hNI:(N:Int)≤3000:=by omega
 have hxI:(x:Int)<(N:Int):=by omega
 have hcI:(N:Int)≤(cC:Int):=by omega
 clear hX hS hT0 hf ih hd hN
 go_enter Tryz.func38,Tryz.ntmps38
 go_wp2_with fail
 refine hnd.mono ?_
 rintro e w2 ⟨⟨A2,c2',T,rfl,hI2,hT2,hM2,-⟩,hb2⟩
 have HB2:Hid (Below w.heap.size w w2):=hb2
 have HI2:Hid (IntT w2 A2 c2' T):=hI2
 have HM2:Hid (∀ z,z∈T↔z∈ndsX D n x):=hM2
 have hl12:=hT2.2.1
 obtain ⟨M,hM⟩:∃ M,T.length=M:=⟨_,rfl⟩
 have HM:Hid (T.length=M):=hM
 rw [hM] at hl12 ⊢
 have hMI:(M:Int)≤12:=by omega
 have HS2:Hid (StC wB qc qp n gC cC gT D inp f w2):=HS.out.next HS.out hb2
 clear hb2 hI2 hT2 hM2 hM hnd c0 c1 c2 ct
 go_wp2_with fail
 go_loopg [32] M (fun gg s32 wr => ∃ (k:Nat) (fk:Nat→Bool),k≤M∧gg=M-k∧s32=.int .i64 k∧Hid (StC wB qc qp n gC cC gT D inp fk wr)∧Hid ((∀ j,f j=true→fk j=true)∧∀ i,i<k→fk (T.getD i 0).toNat=true)∧Hid (FrC gC gT w2 wr))
 case atStart=>exact ⟨0,f,Nat.zero_le _,rfl,rfl,HS2,hid_of ⟨fun j h=>h,fun i hi=>absurd hi (Nat.not_lt_zero _)⟩,FrC.refl _ _ _⟩
 case round =>
  obtain ⟨k,fk,hk,rfl,rfl,HSk,HFk,HFr⟩:=hrel
  by_cases hlt:k<M
  ·have hki:(k:Int)<(M:Int):=by omega
   have hkT:k<T.length:=by rw [HM.out];exact hlt
   obtain ⟨o1,o2⟩:=HS2.out.offI
   obtain ⟨hcS,-,hS0 | ⟨bs,cs,fr,rfl,hbS,hcl⟩⟩:=intT_frC HI2.out HFr.out o1 o2
   ·have:=HM.out;rw [hS0] at this;simp at this;omega
   have cx:=hcl k hkT
   have hbs:bs<wr.heap.size:=(Array.getElem?_eq_some_iff.1 hbS).1
   rw [HM.out] at hcS
   obtain ⟨y,hy,hyN,hym⟩:=nds_near HX.out HXx.out ((HM2.out _).1 (getD_memI hkT))
   rw [hy] at cx
   have hcall:=HIh.out y fk wr hyN hym HSk.out
   have HY:Hid (T.getD k 0=(y:Int)):=hy
   clear hcl hbS hy hym o1 o2 hyN
   go_wp2_with fail
   refine hcall.mono ?_
   rintro e w3 ⟨rfl,f2,hS3,hm3,hf3,hF3⟩
   have HS3:Hid (StC wB qc qp n gC cC gT D inp f2 w3):=hS3
   have HF3:Hid ((∀ j,f j=true→f2 j=true)∧∀ i,i<k+1→f2 (T.getD i 0).toNat=true):=by
    refine ⟨fun j h=>hm3 j (HFk.out.1 j h),fun i hi=>?_⟩
    by_cases e:i=k
    ·rw [e,HY.out,Int.toNat_natCast];exact hf3
    ·exact hm3 _ (HFk.out.2 i (by omega))
   have HFr3:Hid (FrC gC gT w2 w3):=HFr.out.trans hF3
   clear hcall hS3 hm3 hf3 hF3 cx
   go_wp2_with fail
   go_roundg (M-(k+1))
   case measure=>omega
   case rel=>exact ⟨k+1,f2,by omega,rfl,by go_num,HS3,HF3,HFr3⟩
  ·have hke:k=M:=by omega
   subst hke
   obtain ⟨c0,c1,c2⟩:=HSk.out.cells
   obtain ⟨m1,m2,m3,-⟩:=HSk.out.lts
   have HTd:Hid (∀ z∈ndsX D n x,fk z.toNat=true):=fun z hz=>by
    have hz2:=(HM2.out z).2 hz
    obtain ⟨i,hi,e⟩:=List.getElem_of_mem hz2
    have h:=HFk.out.2 i (by rw [HM.out] at hi;exact hi)
    rw [List.getD_eq_getElem?_getD,List.getElem?_eq_getElem hi,Option.getD_some,e] at h
    exact h
   have HTl:Hid (∀ w',Below wr.heap.size wr w'→Calls Tryz.prog 34 #[.pointer (some ⟨qp,0,none⟩),.slice (some ⟨gC,0,none⟩) N cC,.int .i64 x] w' fun e w''=>e=.returned (.tuple #[.agg #[.int .i64 (solV D n inp (placeL D n x)).1,.int .i64 (solV D n inp (placeL D n x)).2],.nilIface])∧Below w'.heap.size w' w''):=fun w' hB=>by
    have hS':=HSk.out.next HSk.out hB
    obtain ⟨hBb,-,L,hCL,hLl,-,hIn⟩:=hS'
    have hXx:=HX.out
    have hnear:∀ z∈ndsX D n x,L.getD z.toNat noC=solV D n inp (placeL D n z.toNat):=fun z hz=>by
     obtain ⟨y,rfl,hy,-⟩:=nds_near hXx HXx.out hz
     have:=HTd.out _ hz
     rw [Int.toNat_natCast] at this ⊢
     exact (hIn y hy).1 this
    have hlf:byTo D (placeL D n x) n<0→L.getD x noC=inp (placeL D n x):=fun h=>by
     cases hfx:fk x with
     | true=>rw [(hIn x HXx.out).1 hfx,sol_leaf inp h]
     | false=>exact (hIn x HXx.out).2 hfx
    have h:=ptell_any qp g n D X x (some ⟨gC,0,none⟩) cC L w' hXx.hR hXx.hE HXx.out (hXx.hA.later hBb) hLl ⟨by rw [hLl];exact hXx.hcc,by have:=hXx.hc63;omega,Or.inr ⟨gC,0,rfl,hCL.celAt⟩⟩ (fun z hz=>by
     rw [hnear z hz]
     exact good_sol hXx.hR hXx.hg _ _ (placeL_in hXx.hE) (Nat.lt_succ_self _))
    rw [tl_sol hXx.hR hXx.hE HXx.out hlf hnear,HN.out] at h
    exact h
   obtain ⟨⟨ra,rb⟩,hRe⟩:∃ R,solV D n inp (placeL D n x)=R:=⟨_,rfl⟩
   have HRe:Hid (solV D n inp (placeL D n x)=(ra,rb)):=hRe
   rw [hRe] at HTl
   simp only at HTl
   rw [HN.out] at c1 c2
   have HKp:Hid (∀ w',Below wr.heap.size wr w'→Below wr.heap.size wr w'∧w'.cell? ⟨qc,0,none⟩=some (.pointer (some ⟨qp,0,none⟩))∧w'.cell? ⟨qc,1,none⟩=some (.slice (some ⟨gC,0,none⟩) N cC)):=fun w' h=>⟨h,(h.cell (p:=⟨qc,0,none⟩) m1).trans c0,(h.cell (p:=⟨qc,1,none⟩) m1).trans c1⟩
   clear hRe
   go_upto_region 13 with fail
   go_cut [6,10] from 11 (fun s6 s10 wx=>s6=.nilIface∧∃ q,s10=.pointer (some ⟨q,0,none⟩)∧At q ra rb wx∧wr.heap.size≤q∧Below wr.heap.size wr wx)
   case first =>
    go_region_held3 (fun w'=>Below wr.heap.size wr w'∧w'.cell? ⟨qc,0,none⟩=some (.pointer (some ⟨qp,0,none⟩))∧w'.cell? ⟨qc,1,none⟩=some (.slice (some ⟨gC,0,none⟩) N cC))
     ((refine HKp.out _ ?_;go_grown;done))
     ((go_at_call 34;refine (HTl.out _ (by go_grown)).mono ?_;rintro e w7 ⟨rfl,hb7⟩;have hN7:=onB (W0:=wr) (by go_grown) hb7;have hy7:=hN7.size;obtain ⟨hc7,hf7⟩:=bcell hb7;have hz7:=bsize hb7;(try simp [Nat.add_one_le_iff] at hz7);(try have ha7:wr.heap.size<w7.heap.size:=by omega);clear hb7))
    all_goals go_wp2_with fail
    all_goals go_meet
    all_goals
     refine ⟨rfl,_,rfl,?_,by (first | omega | (simp;omega) | simp),by go_grown⟩
     first
      | exact At.new _ _ _ _
      | (refine At.set (u:=.int .i64 0) (v:=.int .i64 0) (by omega) ?_ ?_ <;> (rw [hc7 _ _ (by simp)];simp;done))
      | (refine At.set (u:=.int .i64 0) (v:=.int .i64 0) (by omega) ?_ ?_ <;> (rw [hc7 _ _ (by omega)];simp;done))
   case rest =>
   obtain ⟨rfl,q,rfl,⟨hql,p0,p1⟩,hqw,hBc⟩:=hcut
   obtain ⟨w9,rfl⟩:∃ w9:World,w9=wc:=⟨_,rfl⟩
   have hS9:=HSk.out.next HSk.out hBc
   have HS9:Hid (StC wB qc qp n gC cC gT D inp fk w9):=hS9
   obtain ⟨d0,d1,d2⟩:=hS9.cells
   rw [HN.out] at d1 d2
   obtain ⟨j1,j2,j3,-⟩:=hS9.lts
   obtain ⟨n1,n2,n3⟩:=hS9.ne
   have HFr9:Hid (FrC gC gT w w9):=(frC_below HB2.out).trans (HFr.out.trans (frC_below hBc))
   obtain ⟨-,-,Lx,hCx,hLx,hTx,-⟩:=hS9
   rw [HN.out] at hLx hTx
   obtain ⟨r0,r1⟩:=hCx.at (k:=x) (by omega)
   have r2:=hTx.cell hx
   have f0:=hCx.frozen (x*2)
   have f1:=hCx.frozen (x*2+1)
   have f2:=hTx.frozen x
   have HFin:Hid (StC wB qc qp n gC cC gT D inp (fun j=>if j=x then true else fk j) (((w9.setCell ⟨gC,x*2,none⟩ (.int .i64 ra)).setCell ⟨gC,x*2+1,none⟩ (.int .i64 rb)).setCell ⟨gT,x,none⟩ (.bool true))∧FrC gC gT w (((w9.setCell ⟨gC,x*2,none⟩ (.int .i64 ra)).setCell ⟨gC,x*2+1,none⟩ (.int .i64 rb)).setCell ⟨gT,x,none⟩ (.bool true))):=⟨HS9.out.put HXx.out HRe.out HX.out.hC HX.out.hT,frC_put HFr9.out⟩
   have HMo:Hid (∀ j,f j=true→(if j=x then true else fk j)=true):=by
    intro j h
    by_cases e:j=x
    ·rw [if_pos e]
    ·rw [if_neg e];exact HFk.out.1 j h
   have hqC:gC<q:=by omega
   have hqT:gT<q:=by omega
   clear hCx hLx hTx hBc c0 c1 c2 d0
   go_wp2_with fail
   go_region
   all_goals go_wp2_with fail
   all_goals go_ret
   all_goals exact ⟨rfl,_,HFin.out.1.drew,HMo.out,if_pos rfl,frC_drew HFin.out.2⟩
theorem ctell_all (hX:CtxA wB qc qp g n gC cC gT D X inp):∀ (F x:Nat) (f:Nat→Bool) (w:World),x<prodN D n→msrTo D (placeL D n x) n<F→StC wB qc qp n gC cC gT D inp f w→Calls Tryz.prog 38 #[.pointer (some ⟨qc,0,none⟩),.int .i64 x] w fun e w2=>e=.returned .nilIface∧∃ f2,StC wB qc qp n gC cC gT D inp f2 w2∧(∀ j,f j=true→f2 j=true)∧f2 x=true∧FrC gC gT w w2:=by
 intro F
 induction F with
 | zero=>intro x f w _ h;omega
 | succ F ihF =>
  intro x f w hx hF hS
  cases hf:f x with
  | true =>
   refine (ctell_told hX x f w hx hS hf).mono ?_
   rintro e w2 ⟨rfl,rfl⟩
   exact ⟨rfl,f,hS,fun j h=>h,hf,FrC.refl _ _ _⟩
  | false=>exact ctell_new hX x f w hx hS hf fun y f1 w1 hy hm h=>ihF y f1 w1 hy (by omega) h
end
theorem run_make_bols (n:Nat) (hn:n≤3000) (w:World):(Instr.makeSlice 56 (.int .i64 (n:Int)) (.int .i64 (n:Int))).run Tryz.prog w=.ok (.slice (some ⟨w.heap.size,0,none⟩) n n) (w.alloc (.cells (madeCells #[.bool false] n) 4)):=by
 obtain ⟨i0,hi0,hz0,hz1,hz2⟩:=info_parts Tryz.infoBol
 have hr:=run_make (P:=Tryz.prog) w 56 4 i0 _ Tryz.underlying56 hi0 hz0 .i64 .i64 n n (by omega) (Int.le_refl _) (by rw [hz2];omega) (by omega)
 simp only [Int.toNat_natCast,hz1,Nat.mul_one] at hr
 exact hr
end Go.Proofs.YtigkeokacagabagGreatDoor
namespace Go.Proofs.YtigkeokacagabagGreatDoor
open Go.ChangeShapes Go.WideShapes Go.ChangeAt Go.RowKit
noncomputable def neL (D:Nat→Dm) (n:Nat) (p:List Int):List Int:=if neE D n p=0 then telL D n (numI D p n).toNat else []
end Go.Proofs.YtigkeokacagabagGreatDoor
namespace Go.Proofs.YtigkeokacagabagGreatDoor
open Go.ChangeShapes Go.WideShapes Go.ChangeAt Go.RowKit
set_option maxRecDepth 20000
set_option maxHeartbeats 4000000 in
theorem nof_any (A0:Option Addr) (cap n:Nat) (D:Nat→Dm) (A:Nat→Option Addr) (C:Nat→Nat) (Ap:Option Addr) (cp:Nat) (p:List Int) (w:World) (hM:DimsV w A0 cap n D A C) (hP:PlAt w Ap cp p) :
  Calls Tryz.prog 16 #[.agg #[.slice A0 n cap],.slice Ap p.length cp] w fun e w'=>(∃ A' c',e=.returned (.tuple #[.slice A' (neL D n p).length c',errV (neE D n p)])∧IntsAt w' A' c' (neL D n p))∧Below w.heap.size w w':=by
 have hB0:=ownOut_below w A0 n cap 29
 have hS:=ownOut_size w A0 n cap 29
 have hA:=ownOut_at w A0 n cap 29
 obtain ⟨W,hW⟩:∃ W,ownOut w A0 n cap 29=W:=⟨_,rfl⟩
 rw [hW] at hB0 hS hA
 unfold ownOut at hW
 have HB0:Hid (Below w.heap.size w W):=hB0
 have hsz:w.heap.size<W.heap.size:=by omega
 by_cases he:neE D n p=0
 case neg =>
  have hf:=find_bad A0 cap n D A C Ap cp p W he (hM.later hB0) (hP.later hB0)
  have HL:Hid (neL D n p=[]):=by show _=_;unfold neL;rw [if_neg he]
  have HEr:Hid (errV (neE D n p)=.iface 83 (.int .i64 (neE D n p))):=errV_some he
  rw [errV_some he] at hf
  generalize p.length=pl at hf ⊢
  generalize neE D n p=z at hf HEr ⊢
  clear hM hP hB0 he hS
  go_enter Tryz.func16,Tryz.ntmps16
  go_wp2_with fail
  refine hf.mono ?_
  rintro e w1 ⟨rfl,hb1⟩
  go_wp2_with fail
  go_returns
  exact ⟨⟨none,0,by rw [HL.out,HEr.out];rfl,by rw [HL.out];exact (IntT.nil _ _ _ (by omega)).at⟩,onB HB0.out hb1⟩
 obtain ⟨-,hE,hR,-,x,hx,hxN,-⟩:=ne_right he
 have hf:=find_any' A0 cap n D A C Ap cp p x W he hx (hM.later hB0) (hP.later hB0)
 have HL:Hid (neL D n p=telL D n x):=by show _=_;unfold neL;rw [if_pos he,hx,Int.toNat_natCast]
 have HNd:Hid (∀ q g X w',PlanV w' q g n D X→Calls Tryz.prog 41 #[.pointer (some ⟨q,0,none⟩),.int .i64 x] w' fun e w''=>(∃ A' c',e=.returned (.tuple #[.slice A' (telL D n x).length c',.nilIface])∧IntT w'' A' c' (telL D n x))∧Below w'.heap.size w' w''):=fun q g X w' hA=>by
  refine (pneeds_any q g n D X x w' hR hE hxN hA).mono ?_
  rintro e w'' ⟨⟨A',c',T,rfl,hI,hT,-,-⟩,hb⟩
  rw [←told_eq hR hE hT]
  exact ⟨⟨A',c',rfl,hI⟩,hb⟩
 have HE:Hid (neE D n p=0):=he
 generalize p.length=pl at hf ⊢
 clear hM hP hB0 he hE hR hx hxN hS
 go_enter Tryz.func16,Tryz.ntmps16
 go_wp2_with fail
 refine hf.mono ?_
 rintro e w1 ⟨⟨q,g,X,rfl,hPl⟩,hb1⟩
 have hnd:=HNd.out q g X w1 hPl
 have HB1:Hid (Below w.heap.size w w1):=onB HB0.out hb1
 clear hPl hf hb1
 go_wp2_with fail
 refine hnd.mono ?_
 rintro e w2 ⟨⟨A',c',rfl,hI⟩,hb2⟩
 have HI:Hid (IntT w2 A' c' (telL D n x)):=hI
 have HB2:Hid (Below w.heap.size w w2):=onB HB1.out hb2
 clear hI hb2 hnd
 go_wp2_with fail
 go_returns
 exact ⟨⟨A',c',by rw [HL.out,HE.out];rfl,by rw [HL.out];exact HI.out.at⟩,HB2.out⟩
end Go.Proofs.YtigkeokacagabagGreatDoor
namespace Go.Proofs.YtigkeokacagabagGreatDoor
open Go Go.ChangeShapes Go.WideShapes Go.ChangeAt Go.RowKit Go.Deep
set_option maxRecDepth 100000
theorem open_list {H:Type} {enc:TypeId×Value→H} {w:World} {held:Bool} {r:Reach} {b0:Nat} {v:Value} {d:DataW H} {p:List MemPlace} (hv:Value.okWide Tryz.prog w r b0 38 v) (h:DataW.Trod enc Tryz.prog w 0 (fun _=>true) held 38 v d p) :
  ∃ (Ap:Option Addr) (cp:Nat) (L:List Int),v=.slice Ap L.length cp∧PlAt w Ap cp L:=by
 obtain ⟨a,len,cap,rfl⟩:=okWide_slice Tryz.underlying38 hv
 obtain ⟨fuel,hf⟩:=h
 have hf':DataW.trod enc Tryz.prog w 0 (fun _=>true) held fuel 38 [.slice a len cap]=some (d,p):=hf
 rcases open_ints Tryz.underlying38 Tryz.underlying3 (by kernel_rfl) hf' with ⟨e,_⟩ | ⟨a',len',cap',zs,e,_,hl,_,hzl,_,hc,_⟩
 ·simp at e
  obtain ⟨rfl,rfl,rfl⟩:=e
  exact ⟨none,0,[],rfl,PlAt.nil _ _ _⟩
 ·simp at e hzl
  obtain ⟨rfl,rfl,rfl⟩:=e
  have hlen:(zs.take len).length=len:=by simp;omega
  refine ⟨some a',cap,zs.take len,by rw [hlen],by rw [hlen];exact hl,?_⟩
  rcases Nat.eq_zero_or_pos len with h0 | h0
  ·left
   subst h0
   simp
  right
  have c0:=hc 0 (by omega)
  have hp:=addr_plain c0 rfl
  have hb:=World.block_lt_of_cell? _ _ c0
  refine ⟨a'.block,a'.off,by rw [←hp],by simpa [Addr.add] using hb,fun j hj=>?_⟩
  rw [hlen] at hj
  have:=hc j (by omega)
  rw [hp,plain_add] at this
  rw [this]
  simp [List.getD,hj]
end Go.Proofs.YtigkeokacagabagGreatDoor
