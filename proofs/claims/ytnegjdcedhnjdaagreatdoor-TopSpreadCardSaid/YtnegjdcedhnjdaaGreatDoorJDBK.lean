/-
  What may be spread (isAmount), who has the greater rest (byWeight's two closures).
-/
import Derived.Test.YtnegjdcedhnjdaaGreatDoorJDBD
import Derived.Test.YtnegjdcedhnjdaaGreatDoorJDBH
import Derived.Test.YtnegjdcedhnjdaaGreatDoorJDBJ
namespace Go.Proofs.YtnegjdcedhnjdaaGreatDoor
open Go Go.ChangeShapes Go.WideShapes Go.ChangeAt Go.RowKit Go.Shelf Go.Lib Go.Sort
set_option maxRecDepth 100000
def isAmt (n:Int):Bool:=decide (0≤n∧n≤1000000)
set_option maxHeartbeats 1000000 in
theorem isamount_any (n:Int) (w:World):Calls Tryz.prog 70 #[.int .i64 n] w fun e w'=>e=.returned (.bool (isAmt n))∧w'=w:=by
 unfold isAmt
 go_enter Tryz.func70,Tryz.ntmps70
 by_cases h1:0≤n
 ·by_cases h2:n≤1000000
  ·rw [decide_eq_true ⟨h1,h2⟩]
   go_wp2_with fail
   go_ret
   exact ⟨rfl,rfl⟩
  ·rw [decide_eq_false fun h=>h2 h.2]
   go_wp2_with fail
   go_ret
   exact ⟨rfl,rfl⟩
 ·rw [decide_eq_false fun h=>h1 h.1]
  go_wp2_with fail
  go_ret
  exact ⟨rfl,rfl⟩
set_option maxHeartbeats 1000000 in
theorem like1_any (n:Int) (w:World):Calls Tryz.prog 71 #[.int .i64 n] w fun e w'=>e=.returned (.bool (!isAmt n))∧w'=w:=by
 have hc:=isamount_any n w
 go_enter Tryz.func71,Tryz.ntmps71
 generalize isAmt n=b at hc ⊢
 go_wp2_with (go_at_call 70;refine hc.mono ?_;rintro e w1 ⟨rfl,rfl⟩)
 go_ret
 exact ⟨rfl,rfl⟩
structure RestA (w:World) (q1 q2 q3:Nat) (n:Int) (A:Option Addr) (c:Nat) (W:List Int):Prop where
 c1:w.cell? ⟨q1,0,none⟩=some (.int .i64 n)
 c2:w.cell? ⟨q2,0,none⟩=some (.slice A W.length c)
 c3:w.cell? ⟨q3,0,none⟩=some (.int .i64 W.sum)
 pl:PlAt w A c W
set_option maxHeartbeats 4000000 in
theorem rest_any (q1 q2 q3:Nat) (n:Int) (A:Option Addr) (c:Nat) (W:List Int) (i:Nat) (w:World) (H:RestA w q1 q2 q3 n A c W) (hi:i<W.length) (hs:0<W.sum) (hn:0≤n∧n≤1000000) (hW:∀ x∈W,0≤x∧x≤1000000) :
  Calls Tryz.prog 99 #[.int .i64 i,.pointer (some ⟨q1,0,none⟩),.pointer (some ⟨q2,0,none⟩),.pointer (some ⟨q3,0,none⟩)] w fun e w'=>e=.returned (.int .i64 (lkR n W i))∧∃ q,w'=w.drewN q:=by
 have mixed:Tryz.prog.follows .mixedOrders=true:=by kernel_rfl
 obtain ⟨c1,c2,c3,hl,h0 | ⟨b,o,rfl,hb,hX⟩⟩:=H
 ·rw [h0] at hi;exact absurd hi (Nat.not_lt_zero _)
 have hx:=hX i hi
 have hm:W.getD i 0∈W:=by rw [List.getD_eq_getElem?_getD,List.getElem?_eq_getElem hi];exact List.getElem_mem hi
 have hw:=hW _ hm
 unfold lkR
 obtain ⟨x,hxe⟩:∃ x,x=W.getD i 0:=⟨_,rfl⟩
 obtain ⟨s,hse⟩:∃ s,s=W.sum:=⟨_,rfl⟩
 obtain ⟨k,hke⟩:∃ k,k=W.length:=⟨_,rfl⟩
 rw [←hxe] at hx hw ⊢
 rw [←hse] at c3 hs ⊢
 rw [←hke] at c2 hi
 have hs0 : ¬ s=0:=by omega
 have hiI:(i:Int)<(k:Int):=by omega
 obtain ⟨y,hye⟩:∃ y,y=n*x:=⟨_,rfl⟩
 have hy0:0≤y:=by rw [hye];exact Int.mul_nonneg hn.1 hw.1
 have hy1:y≤1000000*1000000:=by rw [hye];exact Int.mul_le_mul hn.2 hw.2 hw.1 (by omega)
 have hyw:IntKind.i64.wrap (n*x)=y:=by rw [←hye,IntKind.wrap_i64];omega
 have hr:y.tmod s=y % s:=Int.tmod_eq_emod_of_nonneg hy0
 have hr1:=Int.emod_nonneg y hs0
 have hr2:=Int.emod_lt_of_pos y hs
 rw [←hye]
 clear hX hl hm hW hxe hse hke hye
 go_enter Tryz.func99,Tryz.ntmps99
 go_wp2_with fail
 go_quiet (fail)
 go_wp2_with fail
 go_ret
 exact ⟨rfl,nq,rfl⟩
theorem RestA.drew {w:World} {q1 q2 q3:Nat} {n:Int} {A:Option Addr} {c:Nat} {W:List Int} (h:RestA w q1 q2 q3 n A c W) (k:Nat):RestA (w.drewN k) q1 q2 q3 n A c W:=⟨h.c1,h.c2,h.c3,h.pl⟩
set_option maxHeartbeats 4000000 in
theorem less_any (q1 q2 q3 q4:Nat) (n:Int) (A:Option Addr) (c:Nat) (W:List Int) (i k:Nat) (w:World) (H:RestA w q1 q2 q3 n A c W) (h4:w.cell? ⟨q4,0,none⟩=some (.func (.func 99) #[] #[.pointer (some ⟨q1,0,none⟩),.pointer (some ⟨q2,0,none⟩),.pointer (some ⟨q3,0,none⟩)]))
  (hi:i<W.length) (hk:k<W.length) (hs:0<W.sum) (hn:0≤n∧n≤1000000) (hW:∀ x∈W,0≤x∧x≤1000000) :
  Calls Tryz.prog 101 #[.int .i64 i,.int .i64 k,.pointer (some ⟨q4,0,none⟩)] w fun e w'=>e=.returned (.int .i64 (cmpI (lkR n W k) (lkR n W i)))∧∃ q,w'=w.drewN q:=by
 have mixed:Tryz.prog.follows .mixedOrders=true:=by kernel_rfl
 have hc1:∀ m,Calls Tryz.prog 99 #[.int .i64 i,.pointer (some ⟨q1,0,none⟩),.pointer (some ⟨q2,0,none⟩),.pointer (some ⟨q3,0,none⟩)] (w.drewN m) fun e w'=>e=.returned (.int .i64 (lkR n W i))∧∃ q,w'=(w.drewN m).drewN q:=fun m=>rest_any q1 q2 q3 n A c W i _ (H.drew m) hi hs hn hW
 have hc2:∀ m,Calls Tryz.prog 99 #[.int .i64 k,.pointer (some ⟨q1,0,none⟩),.pointer (some ⟨q2,0,none⟩),.pointer (some ⟨q3,0,none⟩)] (w.drewN m) fun e w'=>e=.returned (.int .i64 (lkR n W k))∧∃ q,w'=(w.drewN m).drewN q:=fun m=>rest_any q1 q2 q3 n A c W k _ (H.drew m) hk hs hn hW
 have hc3:=fun (w:World)=>compare_any (lkR n W k) (lkR n W i) w
 generalize lkR n W i=r1 at hc1 hc3 ⊢
 generalize lkR n W k=r2 at hc2 hc3 ⊢
 generalize cmpI r2 r1=r3 at hc3 ⊢
 clear H hs hn hW hi hk
 have e1:∀ (args:Array Value) (w:World),(callFunc 99 args).run Tryz.prog w=.ok (.enter 99 args) w:=fun args w=>by simp [callFunc,Tryz.func99];rfl
 go_enter Tryz.func101,Tryz.ntmps101
 go_wp2_with fail
 go_quiet (first | (go_at_call 102;exact Calls.quiet_of_same (hc3 _)) | (go_at_call_of 99 (Value.int .i64 k);exact Calls.quiet_of (hc2 _)) | (go_at_call_of 99 (Value.int .i64 i);exact Calls.quiet_of (hc1 _)))
 go_wp2_with fail
 go_ret
 exact ⟨rfl,nq,rfl⟩
structure OffG (g:Nat) (w w':World):Prop where
 os:w'.os=w.os
 tape:w'.tape=w.tape
 output:w'.output=w.output
 size:w.heap.size≤w'.heap.size
 block:∀ k,k<w.heap.size→k≠g→w'.heap[k]?=w.heap[k]?
theorem OffG.below {g B:Nat} {w0 w w':World} (h:OffG g w w') (hB:Below B w0 w) (hg:B≤g) (hs:B≤w.heap.size):Below B w0 w' :=
 ⟨h.os.trans hB.os,h.tape.trans hB.tape,h.output.trans hB.output,Nat.le_trans hB.size h.size,fun k hk=>(h.block k (by omega) (by omega)).trans (hB.block k hk)⟩
theorem heap_sortWorld {α:Type} [Inhabited α] (enc:α→Value) (w:World) (g n:Nat) (d:Array α) (os:Array Obj) {k:Nat} (hk:k<w.heap.size):(sortWorld enc w g 0 n d os).heap[k]?=if g=k then (w.heap[k]?).map (onCells (putCells enc 0 d)) else w.heap[k]?:=by
 show ((w.heap.modify g (onCells (putCells enc 0 d))) ++ os)[k]?=_
 rw [Array.getElem?_append_left (by simpa using hk),Array.getElem?_modify]
theorem offG_sort {α:Type} [Inhabited α] (enc:α→Value) (w:World) (g n:Nat) (d:Array α) (os:Array Obj):OffG g w (sortWorld enc w g 0 n d os) :=
 ⟨rfl,rfl,rfl,by show _≤((w.heap.modify g _) ++ os).size;simp,fun k hk hn=>by rw [heap_sortWorld enc w g n d os hk,if_neg (fun h=>hn h.symm)]⟩
theorem pb_sort {α:Type} [Inhabited α] (ix:α→Nat) {w:World} {g n:Nat} {d0 d:Array α} {os:Array Obj} {L:List Int} (h:IntB w g L) (hH:Holds (encI ix) w g 0 d0) (hs:d.size=d0.size):PB (sortWorld (encI ix) w g 0 n d os) g (d.toList.map fun x=>((ix x:Nat):Int)):=by
 have hh:=holds_sortWorld (encI ix) w g 0 n d0 d os h.lt hH hs
 have hb:=heap_sortWorld (encI ix) w g n d os h.lt
 rw [if_pos rfl,h] at hb
 refine ⟨_,hb,fun j hj=>?_⟩
 have hj':j<d.size:=by simpa using hj
 have:=(hh j hj').1
 rw [Lib.cell_of_heap hb,Nat.zero_add] at this
 rw [this]
 unfold encI
 rw [List.getD_eq_getElem?_getD,List.getElem?_map,getElem!_pos d j hj']
 simp [hj']
set_option maxHeartbeats 4000000 in
theorem sortst_any {α:Type} [Inhabited α] {cf:α→α→Int} {tot:α→α→Bool} {ix:α→Nat} {g:Nat} {cb:Array Value} {blk off:Nat} {d0:Array α} {w0:World} (M:MgC cf tot ix g cb blk off d0 w0)
  (cap n:Nat) (hn:d0.size=n) (h0:∀ i,i<n→ix d0[i]! = i) :
  Calls Tryz.prog 100 #[.slice (some ⟨blk,off,none⟩) n cap,.func (.func g) #[] cb] w0 fun e w'=>e=.returned (.tuple #[])∧∃ d',SortedIn tot 0 n d'∧PermIn 0 n d0 d'∧SW (encI ix) w0 blk off d' w':=by
 have hc:=stable_any M cap n d0 w0 hn rfl (SW.start M.R.hH) h0
 clear M
 go_enter Tryz.func100,Tryz.ntmps100
 go_wp2_with fail
 refine hc.mono ?_
 rintro e w' ⟨rfl,h⟩
 go_wp2_with fail
 go_end0
 exact ⟨rfl,h⟩
def cfW (n:Int) (W:List Int) (k:Nat) (x y:Fin (k+1)):Int:=cmpI (lkR n W y.val) (lkR n W x.val)
def totW (n:Int) (W:List Int) (k:Nat) (x y:Fin (k+1)):Bool:=prec n W x.val y.val
theorem tieW (n:Int) (W:List Int) (k:Nat):Tie (ltOf (cfW n W k)) (totW n W k) Fin.val where
 S:=by
  refine ⟨fun x=>?_,fun x y z h1 h2=>?_,fun x y z h1 h2=>?_⟩
  ·unfold totW prec;simp
  ·unfold totW prec at *;simp only [decide_eq_true_eq] at *;omega
  ·unfold totW prec at *;simp only [decide_eq_false_iff_not] at *;omega
 on:=fun x y h=>by
  unfold ltOf cfW totW prec cmpI
  by_cases h1:lkR n W y.val<lkR n W x.val
  ·rw [if_pos h1];simp [h1]
  ·rw [if_neg h1]
   by_cases h2:lkR n W x.val<lkR n W y.val
   ·rw [if_pos h2];simp;omega
   ·rw [if_neg h2];simp;omega
def ids (k:Nat):Array (Fin (k+1)):=Array.ofFn fun i=>i
theorem ids_size (k:Nat):(ids k).size=k+1:=by simp [ids]
theorem ids_at (k i:Nat) (h:i<k+1):((ids k)[i]!).val=i:=by rw [getElem!_pos (ids k) i (by rw [ids_size];exact h)];simp [ids]
theorem ids_list (k:Nat):(ids k).toList.map Fin.val=List.range (k+1):=by
 refine List.ext_getElem (by simp [ids]) fun i h1 h2=>?_
 have hi:i<k+1:=by simpa using h2
 rw [List.getElem_map,List.getElem_range]
 have:=ids_at k i hi
 rw [getElem!_pos (ids k) i (by rw [ids_size];exact hi)] at this
 simpa using this
theorem sortw_any (g c q1 q2 q3 q4:Nat) (n:Int) (A:Option Addr) (cA:Nat) (W:List Int) (w:World) (hW0:0<W.length) (hWk:W.length≤60) (hO:IntB w g (risL W.length))
  (HR:∀ w',OffG g w w'→RestA w' q1 q2 q3 n A cA W∧w'.cell? ⟨q4,0,none⟩=some (.func (.func 99) #[] #[.pointer (some ⟨q1,0,none⟩),.pointer (some ⟨q2,0,none⟩),.pointer (some ⟨q3,0,none⟩)]))
  (hs:0<W.sum) (hn:0≤n∧n≤1000000) (hW:∀ x∈W,0≤x∧x≤1000000) :
  Calls Tryz.prog 100 #[.slice (some ⟨g,0,none⟩) W.length c,.func (.func 101) #[] #[.pointer (some ⟨q4,0,none⟩)]] w fun e w'=>e=.returned (.tuple #[]) ∧
   (∃ O:List Nat,O.Perm (List.range W.length)∧(∀ a b,a<b→b<W.length→prec n W (O.getD a 0) (O.getD b 0)=true)∧PB w' g (O.map fun x:Nat=>(x:Int)))∧OffG g w w':=by
 obtain ⟨k,hk⟩:∃ k,W.length=k+1:=⟨W.length-1,by omega⟩
 have hH:Holds (encI (Fin.val:Fin (k+1)→Nat)) w g 0 (ids k):=fun j hj=>by
  rw [ids_size] at hj
  refine ⟨?_,hO.frozen _⟩
  rw [Nat.zero_add,hO.cell (j:=j) (by rw [risL_len];omega)]
  unfold encI
  rw [ids_at k j hj]
  congr 2
  unfold risL
  rw [List.getD_eq_getElem?_getD,List.getElem?_map,List.getElem?_range (by omega)];rfl
 have hread:CmpReads Tryz.prog 101 #[.pointer (some ⟨q4,0,none⟩)] (encI Fin.val) (cfW n W k) g 0 (ids k).size w:=fun m os dk _ x y=>by
  obtain ⟨h1,h2⟩:=HR _ (offG_sort (encI Fin.val) w g m dk os)
  exact less_any q1 q2 q3 q4 n A cA W x.val y.val _ h1 h2 (by have:=x.isLt;omega) (by have:=y.isLt;omega) hs hn hW
 have M:MgC (cfW n W k) (totW n W k) Fin.val 101 #[.pointer (some ⟨q4,0,none⟩)] g 0 (ids k) w :=
  ⟨fun args w=>by simp [callFunc,Tryz.func101];rfl,hread.lays,⟨fun _=>rfl,hH,hO.lt⟩,tieW n W k,by rw [ids_size];omega⟩
 rw [hk]
 refine (sortst_any M c (k+1) (ids_size k) (ids_at k)).mono ?_
 rintro e w' ⟨rfl,d,hS,hP,m,os,rfl⟩
 obtain ⟨o1,o2⟩:=order_of (n:=n) (W:=W) hk (tot:=totW n W k) (fun _ _=>rfl) (ids_list k) hS hP
 refine ⟨rfl,⟨_,by have:=o1;rw [hk] at this;exact this,fun a b h1 h2=>o2 a b h1 (by omega),?_⟩,offG_sort _ w g m d os⟩
 have:=pb_sort Fin.val (n:=m) (os:=os) hO hH hP.1
 rwa [List.map_map]
end Go.Proofs.YtnegjdcedhnjdaaGreatDoor
namespace Go.Proofs.YtnegjdcedhnjdaaGreatDoor
open Go.ChangeShapes Go.WideShapes Go.ChangeAt Go.RowKit
open Go.Sort (putRow Holds grow holds_putRow)
set_option maxRecDepth 20000
theorem map_snocI (f:Int→Int) (P:List Int) {k:Nat} (h:k<P.length):(P.take (k+1)).map f=(P.take k).map f ++ [f (P.getD k 0)]:=by
 rw [List.take_succ_eq_append_getElem h,List.map_append,List.getD_eq_getElem?_getD,List.getElem?_eq_getElem h]
 rfl
theorem map_snoc (f:Int→Int×Int) (P:List Int) {k:Nat} (h:k<P.length):(P.take (k+1)).map f=(P.take k).map f ++ [f (P.getD k 0)]:=by
 rw [List.take_succ_eq_append_getElem h,List.map_append,List.getD_eq_getElem?_getD,List.getElem?_eq_getElem h]
 rfl
theorem getD_memI {P:List Int} {k:Nat} (h:k<P.length):P.getD k 0∈P:=by
 rw [List.getD_eq_getElem?_getD,List.getElem?_eq_getElem h]
 exact List.getElem_mem h
set_option maxHeartbeats 8000000 in
theorem needs_any (q g n:Nat) (D:Nat→Dm) (X:Nat→AL) (x:Nat) (w:World) (hR:AllR D n) (hE:(allErr D n).2.2=0) (hx:x<prodN D n) (hA:PlanV w q g n D X) :
  Calls Tryz.prog 54 #[.pointer (some ⟨q,0,none⟩),.int .i64 x] w fun e w'=>(∃ v,e=.returned v∧w'.ownsRow w.heap.size 3 1 v (ndsX D n x).length (mapI (ndsX D n x)))∧Below w.heap.size w w':=by
 obtain ⟨i0,hi0,hz0,hz1,hz2⟩:=info_parts Tryz.infoInt
 obtain ⟨hn1,hn4,hp3,hd⟩:=allErr_some hE
 have hby:=by_any2 q g n D X x w hE hx hA
 have HA:Hid (PlanV w q g n D X):=hA
 obtain ⟨hq,q0,q1⟩:=hA.cells
 have hnI:(n:Int)≤4:=by omega
 have hxI:(x:Int)≤3000:=by omega
 have hP:=placeL_in (D:=D) (n:=n) (x:=x) hE
 rcases by_in D (placeL D n x) n with h | ⟨b,h,hb⟩
 ·have HNl:Hid (ndsX D n x=[]):=nds_leaf (by omega)
  rw [h] at hby
  clear hA hE hR hP h q0 q1
  go_enter Tryz.func54,Tryz.ntmps54
  go_wp2_with fail
  refine hby.mono ?_
  rintro e w1 ⟨rfl,hb1⟩
  have HB1:Hid (Below w.heap.size w w1):=hb1
  clear hb1 hby
  go_wp2_with fail
  go_ret
  rw [HNl.out]
  exact ⟨⟨_,rfl,World.ownsRow_nil _ _ _ _⟩,HB1.out⟩
 ·obtain ⟨hd1,hd12⟩:=hd b hb
  have hp0:=hP.lo b hb
  have hp1:=hP.hi b hb
  obtain ⟨m,hm⟩:∃ m,x / stepD D n b % (D b).n=m:=⟨_,rfl⟩
  have hpm:((placeL D n x).getD b 0).toNat=m:=by rw [digit_at hb,hm]
  have hmn:m<(D b).n:=by rw [←hm];exact Nat.mod_lt _ hd1
  have HNd:Hid (ndsX D n x=(neW (D b) m).map (putN D n x b)):=by show _=_;rw [nds_by h,hpm]
  have hlen:(neW (D b) m).length≤12:=by
   have:=nds_len hR hE hx
   rw [HNd.out,List.length_map] at this
   exact this
  have HNum:Hid (∀ k∈neW (D b) m,∃ j y:Nat,k=(j:Int)∧j<(D b).n∧putN D n x b k=(y:Int)∧y<prodN D n∧(x:Int)+((j:Int)-(m:Int))*(stepD D n b:Int)=y):=fun k hk=>by
   have hk2:=mNd_in ((neW_mem (hR b hb) hmn k).1 hk)
   obtain ⟨y,e1,e2,-,e4⟩:=putN_at hE hb hx hk2.1 hk2.2
   rw [hm] at e4
   exact ⟨k.toNat,y,by omega,by omega,e1,e2,by rw [Int.toNat_of_nonneg hk2.1];exact e4⟩
  have hSp:=stepD_pos (D:=D) (n:=n) (fun i hi=>(hd i hi).1) hb
  obtain ⟨S,hSd⟩:∃ S,stepD D n b=S:=⟨_,rfl⟩
  have HMb:Hid (∀ w',Calls Tryz.prog 83 #[.agg #[.int .i64 (D b).solve,.int .i64 S,.slice (X b).A (D b).n (X b).c],.int .i64 x] w' fun e w''=>e=.returned (.int .i64 m)∧Below w'.heap.size w' w''):=fun w'=>member_any2 (D b) S (X b) x m w' (by rw [←hSd];exact hSp) hd1 hd12 (by omega) (by rw [←hSd];exact hm)
  have HWy:Hid (∀ w',Below w.heap.size w w'→Calls Tryz.prog 55 #[.agg #[.int .i64 (D b).solve,.int .i64 S,.slice (X b).A (D b).n (X b).c],.int .i64 x] w' fun e w''=>e=.returned (wayV ((X b).xs.getD m noW))∧Below w'.heap.size w' w''):=fun w' hB=>way_any (D b) S (X b) x m w' (by rw [←hSd];exact hSp) hd1 hd12 (by omega) (by rw [←hSd];exact hm) ((hA.later hB).2.one hb).2.2
  have HNe:Hid (∀ w',Below w.heap.size w w'→IntT w' ((X b).xs.getD m noW).Ai ((X b).xs.getD m noW).ci (neW (D b) m)):=fun w' hB=>by
   obtain ⟨-,-,hOne⟩:=(hA.later hB).2.one hb
   obtain ⟨-,-,-,-,-,hWt⟩:=hOne.way hmn
   have:=hWt.2.2.1
   rw [way_ne (hOne.2.2 m hmn)] at this
   exact this
  have hfl:∀ w',(Instr.field 121 (wayV ((X b).xs.getD m noW)) 3).run Tryz.prog w'=.ok (.slice ((X b).xs.getD m noW).Ai (neW (D b) m).length ((X b).xs.getD m noW).ci) w':=fun w'=>by
   obtain ⟨-,-,hOne⟩:=hA.2.one hb
   rw [field_way3,way_ne (hOne.2.2 m hmn)]
  have HCp:Hid (∀ w',Below w.heap.size w w'→q<w'.heap.size∧g<w'.heap.size∧w'.cell? ⟨q,0,none⟩=some (.slice (some ⟨g,0,none⟩) n n)∧w'.cell? ⟨g,b*3,none⟩=some (.int .i64 (D b).solve)∧w'.cell? ⟨g,b*3+1,none⟩=some (.int .i64 S)∧w'.cell? ⟨g,b*3+2,none⟩=some (.slice (X b).A (D b).n (X b).c)):=fun w' hB=>by
   obtain ⟨a1,a2,-⟩:=(hA.later hB).cells
   obtain ⟨hg,⟨c0,c1,c2⟩,-⟩:=(hA.later hB).2.one hb
   rw [hSd] at c1
   exact ⟨a1,hg,a2,c0,c1,c2⟩
  obtain ⟨P,hPn⟩:∃ P,neW (D b) m=P:=⟨_,rfl⟩
  obtain ⟨f,hf⟩:∃ f,putN D n x b=f:=⟨_,rfl⟩
  obtain ⟨z,hz⟩:∃ z,(X b).xs.getD m noW=z:=⟨_,rfl⟩
  rw [hPn] at HNd hlen HNum HNe hfl
  rw [hf] at HNd HNum
  rw [hz] at HWy HNe hfl
  rw [hSd] at HNum
  obtain ⟨N,hN⟩:∃ N,P.length=N:=⟨_,rfl⟩
  have HN:Hid (P.length=N):=hN
  rw [hN] at hlen hfl
  have hNI:(N:Int)≤12:=by omega
  have hbI:(b:Int)<(n:Int):=by omega
  have hb0:((b:Int) == -1)=false:=by simp
  have hmI:(m:Int)<12:=by omega
  have HX3:Hid (prodN D n≤3000):=hp3
  have HDn:Hid ((D b).n≤12):=hd12
  rw [h] at hby
  obtain ⟨ai,hai⟩:∃ ai,z.Ai=ai:=⟨_,rfl⟩
  obtain ⟨ci,hci⟩:∃ ci,z.ci=ci:=⟨_,rfl⟩
  rw [hai,hci] at HNe hfl
  generalize wayV z=wv at hfl HWy
  clear hA hE hR hP h hp0 hp1 hm hpm hmn hSd hPn hf hz hN hd q0 q1 hd12 hd1 hai hci
  go_enter Tryz.func54,Tryz.ntmps54
  go_wp2_with fail
  refine hby.mono ?_
  rintro e w1 ⟨rfl,hb1⟩
  have HB1:Hid (Below w.heap.size w w1):=hb1
  obtain ⟨hq1,hg1,a0,a1,a2,a3⟩:=HCp.out w1 hb1
  obtain ⟨v,hv⟩:∃ v,w1.alloc (.cells #[.int .i64 (D b).solve,.int .i64 S,.slice (X b).A (D b).n (X b).c] 107)=v:=⟨_,rfl⟩
  have hvb:v.heap[w1.heap.size]?=some (.cells #[.int .i64 (D b).solve,.int .i64 S,.slice (X b).A (D b).n (X b).c] 107 (0,0)):=by rw [←hv];exact heap_alloc_new ..
  have HVb:Hid (v.heap[w1.heap.size]?=some (.cells #[.int .i64 (D b).solve,.int .i64 S,.slice (X b).A (D b).n (X b).c] 107 (0,0))):=hvb
  have hBv:Below w1.heap.size w1 v:=by rw [←hv];go_grown
  have HBv:Hid (Below w.heap.size w v):=onB hb1 hBv
  have v0:v.cell? ⟨w1.heap.size,0,none⟩=some (.int .i64 (D b).solve):=by simp [World.cell?,hvb]
  have v1:v.cell? ⟨w1.heap.size,1,none⟩=some (.int .i64 S):=by simp [World.cell?,hvb]
  have v2:v.cell? ⟨w1.heap.size,2,none⟩=some (.slice (X b).A (D b).n (X b).c):=by simp [World.cell?,hvb]
  have hvs:w1.heap.size<v.heap.size:=(Array.getElem?_eq_some_iff.1 hvb).1
  have hwy:=HWy.out v HBv.out
  clear hb1 hby hvb hBv
  go_wp2_with fail
  refine hwy.mono ?_
  rintro e w2 ⟨rfl,hb2⟩
  have HB2:Hid (Below v.heap.size v w2):=hb2
  clear hb2 hwy v0 v1 v2 hv a0 a1 a2 a3
  go_wp2_with fail
  clear hfl
  go_loopg [7,27] N (fun gg s7 s27 wr => ∃ (k:Nat) (AO:Option Addr) (cO:Nat),k≤N∧gg=N-k∧s27=.int .i64 k∧s7=.slice AO k cO∧Hid (wr.ownsRow w2.heap.size 3 1 (.slice AO k cO) k (mapI ((P.take k).map f)))∧Hid (Below w2.heap.size w2 wr))
  case atStart=>exact ⟨0,none,0,Nat.zero_le _,rfl,rfl,rfl,World.ownsRow_nil _ _ _ _,Below.refl _ _⟩
  case round =>
   obtain ⟨k,AO,cO,hk,rfl,rfl,rfl,HO,HBw⟩:=hrel
   have HBwW:Hid (Below w.heap.size w wr):=onB HBv.out (onB HB2.out HBw.out)
   by_cases hlt:k<N
   ·have hki:(k:Int)<(N:Int):=by omega
    have hkP:k<P.length:=by rw [HN.out];exact hlt
    obtain ⟨j,y,hj,hjn,hy,hyN,hyE⟩:=HNum.out _ (getD_memI hkP)
    obtain ⟨hcI,-,h0 | ⟨bi,cs,fr,hAi,hbi,hcl⟩⟩:=HNe.out wr HBwW.out
    ·have:=HN.out;rw [h0] at this;simp at this;omega
    have cx:=hcl k hkP
    have hbil:bi<wr.heap.size:=(Array.getElem?_eq_some_iff.1 hbi).1
    rw [HN.out] at hcI
    rw [hj] at cx
    have hcII:(N:Int)≤(ci:Int):=by omega
    have HNx:Hid ((P.take (k+1)).map f=(P.take k).map f ++ [(y:Int)]):=by show _=_;rw [map_snocI f P hkP,hy]
    have hyI:(y:Int)≤3000:=by have:=HX3.out;omega
    obtain ⟨t1,ht1⟩:∃ t:Int,(j:Int)-(m:Int)=t:=⟨_,rfl⟩
    obtain ⟨t2,ht2⟩:∃ t:Int,t1*(S:Int)=t:=⟨_,rfl⟩
    rw [ht1,ht2] at hyE
    have hjI:(j:Int)≤3000:=by have:=HDn.out;omega
    have hw1:IntKind.i64.wrap ((j:Int)-(m:Int))=t1:=by rw [ht1];exact IntWalk.i64_in _ (by omega)
    have hw2:IntKind.i64.wrap (t1*(S:Int))=t2:=by rw [ht2];exact IntWalk.i64_in _ (by omega)
    have hw3:IntKind.i64.wrap ((x:Int)+t2)=(y:Int):=by rw [hyE];exact IntWalk.i64_in _ (by omega)
    have HC:Hid (∀ w',Below wr.heap.size wr w'→w'.cell? ⟨w1.heap.size,0,none⟩=some (.int .i64 (D b).solve)∧w'.cell? ⟨w1.heap.size,1,none⟩=some (.int .i64 S)∧w'.cell? ⟨w1.heap.size,2,none⟩=some (.slice (X b).A (D b).n (X b).c)):=fun w' h=>by
     have hbk:=((onB HB2.out (onB HBw.out h)).block w1.heap.size hvs).trans HVb.out
     exact ⟨by simp [World.cell?,hbk],by simp [World.cell?,hbk],by simp [World.cell?,hbk]⟩
    obtain ⟨p0,p1,p2⟩:=HC.out wr (Below.refl _ _)
    have hs7:=HBw.out.size
    have hs8:=HB2.out.size
    have hax:w1.heap.size<wr.heap.size:=by omega
    have HFin:Hid (∀ (w4 w6:World) (o':Obj) (A6:Option Addr) (c6:Nat),Below wr.heap.size wr w4→w6.ownsRow w2.heap.size 3 1 (.slice A6 (k+1) c6) (k+1) (mapI ((P.take k).map f) ++ [.int .i64 (y:Int)])→(w4.alloc o').grownBy w6 (Value.slice AO k cO).ownBlock→Hid (w6.ownsRow w2.heap.size 3 1 (.slice A6 (k+1) c6) (k+1) (mapI ((P.take (k+1)).map f)))∧Hid (Below w2.heap.size w2 w6)):=fun w4 w6 o' A6 c6 h4 h6 hg=>by
     refine ⟨?_,grown_own (onB HBw.out h4) (own_later HO.out h4) hg⟩
     show World.ownsRow ..
     rw [HNx.out,mapI_snoc]
     exact h6
    clear hcl hbi hj hy hyE ht1 ht2 hyN hjn
    subst hAi
    go_wp2_with fail
    go_region_law ((first
     | (refine step_append_lies _ (by rfl) _ _ _ (by rfl) w2.heap.size 3 i0 _ 1 8 Tryz.underlying26 hi0 hz0 hz1 hz2 rfl (by omega) (.slice AO k cO) k (mapI ((P.take k).map f)) (by rfl) (own_later HO.out (by go_grown)) ⟨w4.heap.size,0,none⟩ 1 1 [.int .i64 y] (by rfl) (by rfl) (World.news_of_block (cs := #[.int .i64 y]) (t:=3) (fr:=(0,0)) (heap_alloc_new w4 _)) (by simp [Value.oneCell']) (by omega) (by unfold maxLen;omega) (by omega) (by simp;omega) (w4.heap.size+1) (by simp) ?_;intro gg cg w6 hown6 hgrow hat hlt6)
     | (go_simp;refine (HMb.out _).mono ?_;rintro e w4 ⟨rfl,hb4⟩;have hN4:=onB (W0:=wr) (by go_grown) hb4;have hs4:=hN4.size;obtain ⟨x0,x1,x2⟩:=HC.out _ hN4;clear hb4)))
    all_goals (obtain ⟨HO6,HB6⟩:=HFin.out _ _ _ _ _ (by go_grown) hown6 hgrow)
    all_goals clear hown6 hgrow hat
    all_goals go_wp2_with fail
    all_goals go_roundg (N-(k+1))
    all_goals first | omega | exact ⟨k+1,_,_,by omega,rfl,by go_num,rfl,HO6,HB6⟩
   ·have hke:k=N:=by omega
    subst hke
    have HF:Hid (wr.ownsRow w.heap.size 3 1 (.slice AO k cO) (ndsX D n x).length (mapI (ndsX D n x))):=by
     have h:=HO.out
     rw [List.take_of_length_le (by rw [HN.out];exact Nat.le_refl _),←HNd.out] at h
     have hl:(ndsX D n x).length=k:=by rw [HNd.out,List.length_map];exact HN.out
     show World.ownsRow ..
     rw [hl]
     exact own_low h (by have:=HB2.out.size;have:=HBv.out.size;omega)
    go_wp2_with fail
    go_ret
    exact ⟨⟨_,rfl,HF.out⟩,HBwW.out⟩
set_option maxHeartbeats 8000000 in
theorem pneeds_any (q g n:Nat) (D:Nat→Dm) (X:Nat→AL) (x:Nat) (w:World) (hR:AllR D n) (hE:(allErr D n).2.2=0) (hx:x<prodN D n) (hA:PlanV w q g n D X) :
  Calls Tryz.prog 80 #[.pointer (some ⟨q,0,none⟩),.int .i64 x] w fun e w'=>(∃ A' c' T,e=.returned (.tuple #[.slice A' T.length c',.nilIface])∧IntT w' A' c' T∧ToldP D n (placeL D n x) T∧(∀ z,z∈T↔z∈ndsX D n x)∧∀ a,A'=some a→w.heap.size≤a.block)∧Below w.heap.size w w':=by
 obtain ⟨hn1,hn4,hp3,hd⟩:=allErr_some hE
 obtain ⟨hq,q0,q1⟩:=hA.cells
 have hnd:=needs_any q g n D X x w hR hE hx hA
 have HT:=hid_of (nds_told hR hE hx)
 have HMm:Hid (∀ z,z∈((ndsX D n x).mergeSort fun a b=>decide (a≤b))↔z∈ndsX D n x):=fun z=>(List.mergeSort_perm _ _).mem_iff
 have hl:=nds_len hR hE hx
 obtain ⟨N,hN⟩:∃ N,prodN D n=N:=⟨_,rfl⟩
 rw [hN] at q1 hx hp3
 have hxI:(x:Int)<(N:Int):=by omega
 have hNI:(N:Int)≤3000:=by omega
 obtain ⟨zs,hzs⟩:∃ zs,ndsX D n x=zs:=⟨_,rfl⟩
 rw [hzs] at hnd HT hl HMm ⊢
 obtain ⟨k,hk⟩:∃ k,zs.length=k:=⟨_,rfl⟩
 have HK:Hid (zs.length=k):=hk
 have HLl:Hid ((zs.mergeSort fun a b=>decide (a≤b)).length=k):=by show _=_;rw [List.length_mergeSort];exact hk
 rw [hk] at hnd hl
 clear hzs hE hR hA hd hN hk
 go_enter Tryz.func80,Tryz.ntmps80
 go_wp2_with fail
 refine hnd.mono ?_
 rintro e w1 ⟨⟨v,rfl,hO⟩,hb1⟩
 have HB1:Hid (Below w.heap.size w w1):=hb1
 clear hb1 hnd q0 q1
 by_cases hz:v=.slice none 0 0
 ·subst hz
  have hk0:k=0:=by
   rcases hO.2 with ⟨_,h⟩ | ⟨g,c,cur,h,_⟩
   ·exact h
   ·cases h
  subst hk0
  have hso:=Any.slices_Sort_int_none Tryz.lays189 none 0 w1
  have HZ0:Hid ((zs.mergeSort fun a b=>decide (a≤b))=[]):=List.eq_nil_of_length_eq_zero HLl.out
  clear hO
  go_wp2_with fail
  refine Calls.mono hso ?_
  rintro e w4 ⟨rfl,rfl⟩
  go_wp2_with fail
  go_returns
  refine ⟨⟨none,0,(zs.mergeSort fun a b=>decide (a≤b)),by rw [HLl.out];rfl,by rw [HZ0.out];exact IntT.nil _ _ _ (by omega),HT.out,HMm.out,fun a ha=>(by cases ha)⟩,HB1.out⟩
 ·obtain ⟨gg,c,hv,hgb,hgl,hnc,hcm,-,hH⟩:=Lib.holds_of_ownsRow (enc:=Value.int .i64) (zs:=zs) hO hz
  subst hv
  obtain ⟨cur,hg⟩:∃ cur:Array Value,w1.heap[gg]?=some (.cells cur 3 (0,0)):=by
   rcases hO.2 with ⟨h,_⟩ | ⟨g',c',cur,h,_,hg,_⟩
   ·cases h
   ·cases h;exact ⟨cur,hg⟩
  have hso:=Any.slices_Sort_int Tryz.lays189 gg 0 c zs w1 hH hgl (by have:=HK.out;omega)
  rw [HK.out] at hso
  have HTs:Hid (∀ q2 os,IntT (grow (putRow (Value.int .i64) (Sort.ahead w1 q2) gg 0 (zs.mergeSort fun x y=>decide (x≤y)).toArray) os) (some ⟨gg,0,none⟩) c (zs.mergeSort fun x y=>decide (x≤y))):=fun q2 os=>sorted_intT hg hH (by rw [List.length_mergeSort]) (by have:=HK.out;omega) (by unfold maxLen at hcm;omega)
  have HBs:Hid (∀ q2 os,Below w.heap.size w (grow (putRow (Value.int .i64) (Sort.ahead w1 q2) gg 0 (zs.mergeSort fun x y=>decide (x≤y)).toArray) os)):=fun q2 os=>sorted_belowI HB1.out (by omega)
  generalize hys:(zs.mergeSort fun x y=>decide (x≤y))=ys at hso HTs HBs HT HMm HLl
  clear hO hH hg hys
  go_wp2_with fail
  refine Calls.mono hso ?_
  rintro e w4 ⟨rfl,q2,os,hw4⟩
  have HT4:Hid (IntT w4 (some ⟨gg,0,none⟩) c ys):=by rw [hw4];exact HTs.out q2 os
  have HB4:Hid (Below w.heap.size w w4):=by rw [hw4];exact HBs.out q2 os
  have HGb:Hid (w.heap.size≤gg):=hgb
  clear hw4 hso
  go_wp2_with fail
  go_returns
  exact ⟨⟨_,c,ys,by rw [HLl.out];rfl,HT4.out,HT.out,HMm.out,fun a ha=>(by cases ha;exact HGb.out)⟩,HB4.out⟩
end Go.Proofs.YtnegjdcedhnjdaaGreatDoor
namespace Go.Proofs.YtnegjdcedhnjdaaGreatDoor
open Go.ChangeShapes Go.WideShapes Go.ChangeAt Go.RowKit
set_option maxRecDepth 20000
structure QM (w:World) (B q gM gU N:Nat) (M:Nat→Int) (UV:Nat→Value) (UL:Nat→List Int) (R:Value) (RL:List Int):Prop where
 hq:w.heap[q]?=some (.cells #[.slice (some ⟨gM,0,none⟩) N N,.slice (some ⟨gU,0,none⟩) N N,R] 115 (0,0))
 hM:ValB w gM N 3 fun j=>.int .i64 (M j)
 hU:ValB w gU N 26 UV
 own:∀ j,j<N→w.ownsRow B 3 1 (UV j) (UL j).length (mapI (UL j))
 ready:w.ownsRow B 3 1 R RL.length (mapI RL)
 dM:∀ j,j<N→(UV j).ownBlock≠some gM
 dU:∀ i j,i<N→j<N→i≠j→∀ b,(UV i).ownBlock=some b→(UV j).ownBlock≠some b
 dR:R.ownBlock≠some gM
 dRU:∀ j,j<N→∀ b,R.ownBlock=some b→(UV j).ownBlock≠some b
 lq:B≤q
 lM:B≤gM
 lU:B≤gU
section
variable {w w':World} {B q gM gU N:Nat} {M:Nat→Int} {UV:Nat→Value} {UL:Nat→List Int} {R:Value} {RL:List Int}
theorem QM.ql (h:QM w B q gM gU N M UV UL R RL):q<w.heap.size:=(Array.getElem?_eq_some_iff.1 h.hq).1
theorem QM.later (h:QM w B q gM gU N M UV UL R RL) (hB:Below w.heap.size w w'):QM w' B q gM gU N M UV UL R RL :=
 ⟨(hB.block q h.ql).trans h.hq,h.hM.same (hB.block _ h.hM.lt),h.hU.same (hB.block _ h.hU.lt),fun j hj=>own_later (h.own j hj) hB,own_later h.ready hB,h.dM,h.dU,h.dR,h.dRU,h.lq,h.lM,h.lU⟩
theorem QM.cells (h:QM w B q gM gU N M UV UL R RL):w.cell? ⟨q,0,none⟩=some (.slice (some ⟨gM,0,none⟩) N N)∧w.cell? ⟨q,1,none⟩=some (.slice (some ⟨gU,0,none⟩) N N)∧w.cell? ⟨q,2,none⟩=some R∧w.frozen? ⟨q,2,none⟩=false :=
 ⟨by simp [World.cell?,h.hq],by simp [World.cell?,h.hq],by simp [World.cell?,h.hq],by simp [World.frozen?,h.hq]⟩
theorem QM.ne (h:QM w B q gM gU N M UV UL R RL):q≠gM∧q≠gU∧gM≠gU:=by
 refine ⟨fun e=>?_,fun e=>?_,fun e=>?_⟩
 ·have h1:=h.hq;rw [e,h.hM] at h1;simp at h1
 ·have h1:=h.hq;rw [e,h.hU] at h1;simp at h1
 ·have h1:=h.hM;unfold ValB at h1;rw [e,h.hU] at h1;simp at h1
theorem QM.off (h:QM w B q gM gU N M UV UL R RL) {b:Nat} {cur:Array Value} (hb:w.heap[b]?=some (.cells cur 3 (0,0))):b≠q∧b≠gU:=by
 refine ⟨fun e=>?_,h.hU.off hb row_ne_int'⟩
 rw [e,h.hq] at hb
 simp at hb
theorem QM.setM (h:QM w B q gM gU N M UV UL R RL) (m:Nat) (x:Int):QM (w.setCell ⟨gM,m,none⟩ (.int .i64 x)) B q gM gU N (fun j=>if j=m then x else M j) UV UL R RL:=by
 obtain ⟨n1,n2,n3⟩:=h.ne
 refine ⟨by rw [setCell_off _ _ _ _ _ n1];exact h.hq,?_,h.hU.same (setCell_off _ _ _ _ _ n3.symm),fun j hj=>own_setc (h.own j hj) (h.dM j hj),own_setc h.ready h.dR,h.dM,h.dU,h.dR,h.dRU,h.lq,h.lM,h.lU⟩
 refine h.hM.set (f':=fun j=>.int .i64 (if j=m then x else M j)) fun j _=>?_
 by_cases e:j=m
 ·simp only [if_pos e]
 ·simp only [if_neg e]
theorem QM.pushR (h:QM w B q gM gU N M UV UL R RL) {w4 w6:World} {L:List Int} {v:Value} {H:Nat} (h4:Below w.heap.size w w4) (hG:w4.grownBy w6 R.ownBlock) (hO:w6.ownsRow B 3 1 v L.length (mapI L)) (hat:v.ownBlock=R.ownBlock∨v.ownBlock=some H) (hH:w.heap.size≤H) :
  QM (w6.setCell ⟨q,2,none⟩ v) B q gM gU N M UV UL v L:=by
 obtain ⟨n1,n2,n3⟩:=h.ne
 have hr:=fun b (e:R.ownBlock=some b)=>own_blk h.ready e
 have hkeep:∀ b,b<w.heap.size→R.ownBlock≠some b→w6.heap[b]?=w.heap[b]?:=fun b hb hne=>(hG.block b (Nat.lt_of_lt_of_le hb h4.size) (fun e=>hne e.symm)).trans (h4.block b hb)
 have q1:R.ownBlock≠some q:=fun e=>by obtain ⟨-,-,cur,hc⟩:=hr q e;exact (h.off hc).1 rfl
 have q2:R.ownBlock≠some gU:=fun e=>by obtain ⟨-,-,cur,hc⟩:=hr gU e;exact (h.off hc).2 rfl
 have vq:v.ownBlock≠some q:=fun e=>by
  rcases hat with h1 | h1
  ·exact q1 (h1.symm.trans e)
  ·rw [h1] at e;have:=h.ql;simp at e;omega
 refine ⟨?_,(h.hM.same (hkeep _ h.hM.lt h.dR)).same (setCell_off _ _ _ _ _ n1.symm),(h.hU.same (hkeep _ h.hU.lt q2)).same (setCell_off _ _ _ _ _ n2.symm),fun j hj=>?_,own_setc hO vq,h.dM,h.dU,fun e=>?_,fun j hj b hb e=>?_,h.lq,h.lM,h.lU⟩
 ·have:=set_ty (k:=2) (v:=v) ((hkeep q h.ql q1).trans h.hq)
  simpa using this
 ·refine own_setc (own_grown (own_later (h.own j hj) h4) hG fun b hb e=>h.dRU j hj b e hb) fun e2=>?_
  obtain ⟨-,-,cur,hc⟩:=own_blk (h.own j hj) e2
  exact (h.off hc).1 rfl
 ·rcases hat with h1 | h1
  ·exact h.dR (h1.symm.trans e)
  ·rw [h1] at e;have:=h.hM.lt;simp at e;omega
 ·rcases hat with h1 | h1
  ·exact h.dRU j hj b (h1.symm.trans hb) e
  ·rw [h1] at hb
   have:=(own_blk (h.own j hj) e).2.1
   simp at hb
   omega
end
end Go.Proofs.YtnegjdcedhnjdaaGreatDoor
