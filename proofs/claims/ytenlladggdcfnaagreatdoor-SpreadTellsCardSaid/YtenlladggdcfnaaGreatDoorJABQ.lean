/-
  What the document's own Right, Cube, Size, Members answer, in whatever memory.
-/
import Derived.OneCell
import Derived.Test.YtenlladggdcfnaaGreatDoorShelfG
import Derived.Laws.Cover1
import Derived.Test.YtenlladggdcfnaaGreatDoorShelfJ
import Derived.Test.YtenlladggdcfnaaGreatDoorShelfH
import Derived.BigRegion
import Derived.Deep.RegionWith
import Derived.Test.YtenlladggdcfnaaGreatDoorJABM
import Derived.Test.YtenlladggdcfnaaGreatDoorJABP
namespace Go.Proofs.YtenlladggdcfnaaGreatDoor
open Go.ChangeShapes Go.WideShapes Go.ChangeAt Go.RowKit
set_option maxRecDepth 20000
theorem sright_any (A0:Option Addr) (cap n:Nat) (D:Nat→Dm) (A:Nat→Option Addr) (C:Nat→Nat) (w:World) (hM:DimsV w A0 cap n D A C):Calls Tryz.prog 36 #[.agg #[.slice A0 n cap]] w fun e w'=>e=.returned (.int .i64 (ruErr D n).2.2)∧Below w.heap.size w w':=by
 have hB0:=ownOut_below w A0 n cap 25
 have hA:=ownOut_at w A0 n cap 25
 have h:=srules_any A0 cap n D A C (ownOut w A0 n cap 25) (hM.later hB0)
 obtain ⟨W,hW⟩:∃ W,ownOut w A0 n cap 25=W:=⟨_,rfl⟩
 rw [hW] at hB0 hA h
 unfold ownOut at hW
 have HB0:Hid (Below w.heap.size w W):=hB0
 generalize (ruErr D n).1=x at h
 generalize (ruErr D n).2.1=y at h
 generalize (ruErr D n).2.2=z at h ⊢
 clear hM hB0
 go_enter Tryz.func36,Tryz.ntmps36
 go_wp2_with fail
 refine h.mono ?_
 rintro e w1 ⟨rfl,hb1⟩
 go_wp2_with fail
 go_ret
 exact ⟨rfl,onB HB0.out hb1⟩
noncomputable def cuErr (D:Nat→Dm) (n:Nat) (l:List En):Int:=if (ruErr D n).2.2≠0 then (ruErr D n).2.2 else entsErr D n l
set_option maxHeartbeats 2000000 in
theorem scube_any (A0:Option Addr) (cap n:Nat) (D:Nat→Dm) (A:Nat→Option Addr) (C:Nat→Nat) (AE:Option Addr) (ce:Nat) (xs:List EnL) (w:World) (hM:DimsV w A0 cap n D A C) (hE:EnsV w AE ce xs):Calls Tryz.prog 18 #[.agg #[.slice A0 n cap],.slice AE xs.length ce] w fun e w'=>e=.returned (.int .i64 (cuErr D n (lE xs)))∧Below w.heap.size w w':=by
 have hB0:=ownOut_below w A0 n cap 25
 have hS:=ownOut_size w A0 n cap 25
 have hA:=ownOut_at w A0 n cap 25
 have h:=sright_any A0 cap n D A C (ownOut w A0 n cap 25) (hM.later hB0)
 obtain ⟨W,hW⟩:∃ W,ownOut w A0 n cap 25=W:=⟨_,rfl⟩
 rw [hW] at hB0 hS hA h
 unfold ownOut at hW
 have HB0:Hid (Below w.heap.size w W):=hB0
 have HM:Hid (DimsV w A0 cap n D A C):=hM
 have HE:Hid (EnsV w AE ce xs):=hE
 have hsz:w.heap.size<W.heap.size:=by omega
 have HEn:Hid (∀ w',Below w.heap.size w w'→Calls Tryz.prog 37 #[.agg #[.slice A0 n cap],.slice AE xs.length ce] w' fun r w''=>r=.returned (.int .i64 (entsErr D n (lE xs)))∧Below w'.heap.size w' w''):=fun w' hB=>rentries_any A0 cap n D A C AE ce xs w' (hM.later hB) (hE.later hB)
 generalize xs.length=xl at HEn ⊢
 clear hM hB0 hE
 by_cases he:(ruErr D n).2.2=0
 ·have HC:Hid (cuErr D n (lE xs)=entsErr D n (lE xs)):=by show _=_;unfold cuErr;rw [if_neg (by simpa using he)]
  rw [he] at h
  clear he
  go_enter Tryz.func18,Tryz.ntmps18
  go_wp2_with fail
  refine h.mono ?_
  rintro e w1 ⟨rfl,hb1⟩
  have cw:=(hb1.cell (p:=⟨w.heap.size,0,none⟩) hsz).trans hA
  have hsz1:w.heap.size<w1.heap.size:=Nat.lt_of_lt_of_le hsz hb1.size
  have hen:=HEn.out w1 (onB HB0.out hb1)
  have HB1:Hid (Below w.heap.size w w1):=onB HB0.out hb1
  clear hb1 h hA
  go_wp2_with fail
  refine hen.mono ?_
  rintro e w2 ⟨rfl,hb2⟩
  go_wp2_with fail
  go_ret
  exact ⟨by rw [HC.out];rfl,onB HB1.out hb2⟩
 ·have HC:Hid (cuErr D n (lE xs)=(ruErr D n).2.2):=by show _=_;unfold cuErr;rw [if_pos he]
  have hb:((ruErr D n).2.2 == 0)=false:=by simpa using he
  generalize (ruErr D n).2.2=c at h HC hb
  clear he
  go_enter Tryz.func18,Tryz.ntmps18
  go_wp2_with fail
  refine h.mono ?_
  rintro e w1 ⟨rfl,hb1⟩
  go_wp2_with fail
  go_ret
  exact ⟨by rw [HC.out];rfl,onB HB0.out hb1⟩
structure R2 where
 xs:List RL
 A:Option Addr
 c:Nat
end Go.Proofs.YtenlladggdcfnaaGreatDoor
namespace Go.Proofs.YtenlladggdcfnaaGreatDoor
open Go Go.ChangeShapes Go.WideShapes Go.ChangeAt Go.RowKit
set_option maxRecDepth 20000
def rwL (D:Nat→Dm) (n:Nat) (l:List En) (m:Nat):List (Int×Int):=(List.range m).map fun x=>getE l (placeL D n x)
theorem rwL_len (D:Nat→Dm) (n:Nat) (l:List En) (m:Nat):(rwL D n l m).length=m:=by simp [rwL]
theorem wr_none {D:Nat→Dm} {n x:Nat}:∀ (l:List En) (L:List (Int×Int)),(∀ e∈l,InO D n e.pl)→L.length=prodN D n→(∀ e∈l,(numI D e.pl n).toNat≠x)→(l.foldl (wrStep D n) L).getD x (0,0)=L.getD x (0,0)
 | [],_,_,_,_=>rfl
 | e :: r,L,hi,hL,h=>by
  obtain ⟨h1,h2,-⟩:=numI_bound (hi e (List.mem_cons_self ..)) (Nat.le_refl n)
  rw [List.foldl_cons,wr_none r _ (fun y hy=>hi y (List.mem_cons_of_mem _ hy)) (by unfold wrStep;rw [List.length_set];exact hL) fun y hy=>h y (List.mem_cons_of_mem _ hy)]
  unfold wrStep
  have:=h e (List.mem_cons_self ..)
  simp [List.getD,List.getElem?_set_ne this]
theorem wr_some {D:Nat→Dm} {n:Nat} {e:En}:∀ (l:List En) (L:List (Int×Int)),(∀ y∈l,InO D n y.pl)→(l.Pairwise fun a b=>lessL a.pl b.pl=true)→L.length=prodN D n→e∈l→(l.foldl (wrStep D n) L).getD (numI D e.pl n).toNat (0,0)=(1,e.n)
 | [],_,_,_,_,h=>by cases h
 | y :: r,L,hi,hr,hL,h=>by
  have hr':=List.pairwise_cons.1 hr
  have hiy:=hi y (List.mem_cons_self ..)
  have hir:=fun z hz=>hi z (List.mem_cons_of_mem y hz)
  obtain ⟨h1,h2,-⟩:=numI_bound hiy (Nat.le_refl n)
  rw [List.foldl_cons]
  have hL':(wrStep D n L y).length=prodN D n:=by unfold wrStep;rw [List.length_set];exact hL
  rcases List.mem_cons.1 h with rfl | h
  ·rw [wr_none r _ hir hL' fun z hz=>by
    have h3:=less_num hiy (hir z hz) (hr'.1 z hz)
    obtain ⟨h4,-,-⟩:=numI_bound (hir z hz) (Nat.le_refl n)
    omega]
   unfold wrStep
   have:(numI D e.pl n).toNat<L.length:=by omega
   simp [List.getD,this]
  ·exact wr_some r _ hir hr'.2 hL' h
theorem wr_rwL {D:Nat→Dm} {n:Nat} {l:List En} (h:Ens D n l):wrV D n l=rwL D n l (prodN D n):=by
 apply List.ext_getElem (by rw [wrV_len,rwL_len])
 intro x h1 h2
 rw [wrV_len] at h1
 have e1:(wrV D n l).getD x (0,0)=getE l (placeL D n x):=by
  unfold wrV
  by_cases hx:∃ e,e∈l∧(numI D e.pl n).toNat=x
  ·obtain ⟨e,he,hn⟩:=hx
   have h3:=wr_some l (List.replicate (prodN D n) (0,0)) (fun y hy=>(h.each y hy).1) h.rise (by simp) he
   rw [hn] at h3
   rw [h3,←hn,place_num (h.each e he).1,get_mem h.rise he]
  ·rw [wr_none l _ (fun y hy=>(h.each y hy).1) (by simp) fun e he hn=>hx ⟨e,he,hn⟩]
   rw [(get_none h.rise fun e he e2=>hx ⟨e,he,by rw [e2,num_place h.right h1];omega⟩).1]
   simp [List.getD,h1]
 have h3:x<(wrV D n l).length:=by rw [wrV_len];exact h1
 rw [List.getD_eq_getElem?_getD,List.getElem?_eq_getElem h3] at e1
 simp only [Option.getD_some] at e1
 rw [e1]
 simp [rwL]
end Go.Proofs.YtenlladggdcfnaaGreatDoor
namespace Go.Proofs.YtenlladggdcfnaaGreatDoor
open Go.ChangeShapes Go.WideShapes Go.ChangeAt Go.RowKit
set_option maxRecDepth 20000
def BolB (w:World) (g n:Nat) (f:Nat→Bool):Prop:=w.heap[g]?=some (.cells ((List.range n).map fun j=>Value.bool (f j)).toArray 4 (0,0))
theorem BolB.cell {w:World} {g n:Nat} {f:Nat→Bool} (h:BolB w g n f) {j:Nat} (hj:j<n):w.cell? ⟨g,j,none⟩=some (.bool (f j)):=by
 rw [Lib.cell_of_heap h]
 simp [hj]
theorem BolB.frozen {w:World} {g n:Nat} {f:Nat→Bool} (h:BolB w g n f) (j:Nat):w.frozen? ⟨g,j,none⟩=false:=Lib.frozen_of_heap h j
theorem BolB.set {w:World} {g n:Nat} {f f':Nat→Bool} (h:BolB w g n f) {m:Nat} (hf:∀ j,j<n→f' j=if j=m then true else f j):BolB (w.setCell ⟨g,m,none⟩ (.bool true)) g n f':=by
 unfold BolB at *
 simp only [World.setCell,Array.getElem?_modify,if_true,h,Option.map_some,Option.some.injEq,Obj.cells.injEq,and_true,Option.isSome_none,Bool.false_eq_true,if_false]
 apply Array.ext_getElem?
 intro j
 rw [Array.getElem?_setIfInBounds]
 by_cases hj:j<n
 ·by_cases e:m=j
  ·rw [if_pos e,if_pos (by simp;omega)]
   simp [hj,hf j hj,e]
  ·have e':j≠m:=fun x=>e x.symm
   rw [if_neg e]
   simp only [List.getElem?_toArray,List.getElem?_map,List.getElem?_range hj,Option.map_some,hf j hj,if_neg e']
 ·by_cases e:m=j
  ·rw [if_pos e,if_neg (by simp;omega),Array.getElem?_eq_none (by simp;omega)]
  ·rw [if_neg e,Array.getElem?_eq_none (by simp;omega),Array.getElem?_eq_none (by simp;omega)]
theorem BolB.made (w:World) (n:Nat):BolB (w.alloc (.cells (madeCells #[.bool false] n) 4)) w.heap.size n fun _=>false:=by
 unfold BolB
 have e:madeCells #[.bool false] n=((List.range n).map fun _=>Value.bool false).toArray:=by
  apply Array.ext
  ·simp [madeCells]
  ·intro i h1 h2
   simp [madeCells,Nat.mod_one]
 rw [e]
 exact heap_alloc_new w _
theorem Tryz.infoBol:(Tryz.prog.info? 4).map (fun i=>(i.zero,i.size,i.bytes))=some (some (.bool false),1,1):=by kernel_rfl
theorem own_stays {w w':World} {base e size:Nat} {v:Value} {n:Nat} {xs:List Value} (h:w.ownsRow base e size v n xs) (hB:Below w.heap.size w w'):w'.ownsRow base e size v n xs:=by
 refine ⟨h.1,?_⟩
 rcases h.2 with h0 | ⟨g,cap,cur,rfl,hb,hg,h1⟩
 ·exact Or.inl h0
 ·exact Or.inr ⟨g,cap,cur,rfl,hb,(hB.block g (Array.getElem?_eq_some_iff.1 hg).1).trans hg,h1⟩
def cellsX:List EdL→List Value
 | []=>[]
 | y :: r=>.slice y.A y.x.pl.length y.c :: .int .i64 y.x.n :: .bool y.x.clear :: cellsX r
theorem cellsX_append (a b:List EdL):cellsX (a ++ b)=cellsX a ++ cellsX b:=by
 induction a with
 | nil=>rfl
 | cons x r ih=>simp [cellsX,ih]
theorem cellsX_at (ys:List EdL):∀ k,k<ys.length→(cellsX ys)[k*3]?=some (.slice (ys.getD k noD).A (ys.getD k noD).x.pl.length (ys.getD k noD).c)∧(cellsX ys)[k*3+1]?=some (.int .i64 (ys.getD k noD).x.n)∧(cellsX ys)[k*3+2]?=some (.bool (ys.getD k noD).x.clear):=by
 induction ys with
 | nil=>intro k hk;cases hk
 | cons x r ih =>
  intro k hk
  cases k with
  | zero=>simp [cellsX]
  | succ k =>
   rw [show (k+1)*3=k*3+1+1+1 by omega]
   simp only [cellsX,List.getElem?_cons_succ,List.getD_cons_succ]
   exact ih k (by simpa using hk)
theorem eds_own {w:World} {base:Nat} {v:Value} {ys:List EdL} (h:w.ownsRow base 61 3 v ys.length (cellsX ys)) (hp:∀ y∈ys,PlTy w y.A y.c y.x.pl):∃ A c,v=.slice A ys.length c∧EdsV w A c ys:=by
 rcases h.2 with ⟨rfl,h0⟩ | ⟨g,cap,cur,rfl,hb,hg,hc,hm,_,_⟩
 ·refine ⟨none,0,by rw [h0],by omega,by decide,Or.inl (List.eq_nil_of_length_eq_zero h0)⟩
 ·refine ⟨_,cap,rfl,hc,by unfold maxLen at hm;omega,Or.inr ⟨g,0,rfl,(Array.getElem?_eq_some_iff.1 hg).1,fun k hk=>?_⟩⟩
  obtain ⟨x0,x1,x2⟩:=cellsX_at ys k hk
  have y:=fun j u=>h.cells (g:=g) rfl j u
  simp only [plain_add] at y
  refine ⟨y _ _ x0,?_,?_,?_⟩
  ·rw [Nat.add_assoc];exact y _ _ x1
  ·rw [Nat.add_assoc];exact y _ _ x2
  ·refine (hp _ ?_).pl
   rw [List.getD_eq_getElem?_getD,List.getElem?_eq_getElem hk]
   exact List.getElem_mem hk
end Go.Proofs.YtenlladggdcfnaaGreatDoor
namespace Go.Proofs.YtenlladggdcfnaaGreatDoor
open Go.ChangeShapes Go.WideShapes Go.ChangeAt Go.RowKit Go.Lib
set_option maxRecDepth 100000
def wo (i x:Int):Int:=if i<x then x-1 else x
theorem cu_parts {D:Nat→Dm} {n:Nat} {l:List En} (h:cuErr D n l=0):(ruErr D n).2.2=0∧Ens D n l:=by
 unfold cuErr at h
 split at h
 ·rename_i h1;exact absurd h h1
 ·rename_i h1;exact ⟨by simpa using h1,ens_of h⟩
end Go.Proofs.YtenlladggdcfnaaGreatDoor
namespace Go.Proofs.YtenlladggdcfnaaGreatDoor
open Go.ChangeShapes Go.WideShapes Go.ChangeAt Go.RowKit
set_option maxRecDepth 20000
set_option maxHeartbeats 1000000 in
theorem sameints_pl (A B:Option Addr) (ca cb:Nat) (L:List Int) (w:World) (hn:L.length≤1048576) (hA:PlAt w A ca L) (hB:PlAt w B cb L):Calls Tryz.prog 7 #[.slice A L.length ca,.slice B L.length cb] w fun e w'=>e=.returned (.bool true)∧Below w.heap.size w w':=by
 obtain ⟨hc,h0 | ⟨b,o,rfl,hbw,hcell⟩⟩:=hA
 ·subst h0
  simp only [List.length_nil]
  go_enter Tryz.func7,Tryz.ntmps7
  go_wp2_with fail
  refine wp_loop_rounds 1 ?_
  rw [rounds_succ]
  go_wp2_with fail
  go_ret
  exact ⟨rfl,Below.refl _ _⟩
 ·obtain ⟨hc',h0 | ⟨b',o',rfl,hbw',hcell'⟩⟩:=hB
  ·subst h0
   simp only [List.length_nil]
   go_enter Tryz.func7,Tryz.ntmps7
   go_wp2_with fail
   refine wp_loop_rounds 1 ?_
   rw [rounds_succ]
   go_wp2_with fail
   go_ret
   exact ⟨rfl,Below.refl _ _⟩
  ·have HC:Hid (∀ j,j<L.length→w.cell? ⟨b,o+j,none⟩=some (.int .i64 (L.getD j 0))):=hcell
   have HC':Hid (∀ j,j<L.length→w.cell? ⟨b',o'+j,none⟩=some (.int .i64 (L.getD j 0))):=hcell'
   generalize hnn:L.length=n at hn hc hc' HC HC'
   clear hcell hcell' hnn
   have hn':(n:Int)≤1048576:=by omega
   go_enter Tryz.func7,Tryz.ntmps7
   go_wp2_with fail
   go_loopg [5] n (fun g s5 wr => ∃ (k:Nat),k≤n∧g=n-k∧s5=.int .i64 k∧Below w.heap.size w wr)
   case atStart=>exact ⟨0,Nat.zero_le _,rfl,rfl,Below.refl _ _⟩
   case round =>
    obtain ⟨k,hk,rfl,rfl,hBw⟩:=hrel
    have HBw:Hid (Below w.heap.size w wr):=hBw
    by_cases hlt:k<n
    ·have hki:(k:Int)<(n:Int):=by omega
     have x1:=(hBw.cell (p:=⟨b,o+k,none⟩) hbw).trans (HC.out k hlt)
     have x2:=(hBw.cell (p:=⟨b',o'+k,none⟩) hbw').trans (HC'.out k hlt)
     generalize L.getD k 0=x at x1 x2
     clear hBw
     go_wp2_with fail
     go_quiet (fail)
     go_wp2_with fail
     go_roundg (n-(k+1))
     case measure=>omega
     case rel=>exact ⟨k+1,by omega,rfl,by go_num,onB HBw.out (below_drewN (Below.refl _ _) _)⟩
    ·have hke:k=n:=by omega
     subst hke
     clear hBw
     go_wp2_with fail
     go_ret
     exact ⟨rfl,HBw.out⟩
theorem same_errC (c:Int) (w:World) (hk:Kind0 w):Calls Tryz.prog 6 #[errV c,.int .i64 c] w fun e w'=>e=.returned (.bool true)∧Below w.heap.size w w':=by
 by_cases h:c=0
 ·subst h
  have:=same_nil 0 w
  rw [errV_zero]
  exact this
 ·have:=same_hit c c w hk
  rw [errV_some h]
  simpa using this
end Go.Proofs.YtenlladggdcfnaaGreatDoor
