/-
  What the small functions of package grid answer, in whatever memory: anyOutside, placesOf; and the question that Make hands to table.
-/
import Derived.Deep.RegionHeld
import Derived.Test.YtenlladggdcfnaaGreatDoorJAAT
import Derived.Test.YtenlladggdcfnaaGreatDoorJAAY
import Derived.Test.YtenlladggdcfnaaGreatDoorJAAZ
namespace Go.Proofs.YtenlladggdcfnaaGreatDoor
open Go.ChangeShapes Go.WideShapes Go.ChangeAt Go.RowKit
set_option maxRecDepth 20000
def risL (n:Nat):List Int:=(List.range n).map fun i:Nat=>(i:Int)
theorem risL_len (n:Nat):(risL n).length=n:=by simp [risL]
def risTo (n k:Nat):List Int:=(List.range n).map fun i:Nat=>if i<k then (i:Int) else 0
theorem risTo_len (n k:Nat):(risTo n k).length=n:=by simp [risTo]
theorem risTo_zero (n:Nat):risTo n 0=List.replicate n 0:=by
 refine List.ext_getElem (by simp [risTo]) fun _ _ _=>?_
 simp [risTo]
theorem risTo_all (n:Nat):risTo n n=risL n:=List.map_congr_left fun _ hi=>if_pos (List.mem_range.1 hi)
theorem risTo_set (n k:Nat):(risTo n k).set k (k:Int)=risTo n (k+1):=by
 refine List.ext_getElem (by simp [risTo]) fun i h1 h2=>?_
 rw [List.getElem_set]
 by_cases e:k=i
 ·subst e
  simp [risTo]
 ·rw [if_neg e]
  simp only [risTo,List.getElem_map,List.getElem_range]
  by_cases h3:i<k
  ·rw [if_pos h3,if_pos (by omega)]
  ·rw [if_neg h3,if_neg (by omega)]
def PB (w:World) (g:Nat) (L:List Int):Prop := ∃ cur:Array Value,w.heap[g]?=some (.cells cur 3 (0,0))∧∀ j,j<L.length→cur[j]?=some (.int .i64 (L.getD j 0))
section
variable {w w':World} {g:Nat} {L:List Int}
theorem PB.lt (h:PB w g L):g<w.heap.size:=by
 obtain ⟨cur,h1,_⟩:=h
 exact (Array.getElem?_eq_some_iff.1 h1).1
theorem PB.same (h:PB w g L) (hb:w'.heap[g]?=w.heap[g]?):PB w' g L:=by
 obtain ⟨cur,h1,h2⟩:=h
 exact ⟨cur,hb.trans h1,h2⟩
theorem PB.cell (h:PB w g L) {j:Nat} (hj:j<L.length):w.cell? ⟨g,j,none⟩=some (.int .i64 (L.getD j 0)):=by
 obtain ⟨cur,h1,h2⟩:=h
 rw [Lib.cell_of_heap h1]
 exact h2 j hj
theorem PB.frozen (h:PB w g L) (j:Nat):w.frozen? ⟨g,j,none⟩=false:=by
 obtain ⟨cur,h1,_⟩:=h
 exact Lib.frozen_of_heap h1 j
theorem PB.set (h:PB w g L) {x:Nat} (v:Int):PB (w.setCell ⟨g,x,none⟩ (.int .i64 v)) g (L.set x v):=by
 obtain ⟨cur,h1,h2⟩:=h
 refine ⟨cur.setIfInBounds x (.int .i64 v),by simp [World.setCell,Array.getElem?_modify,h1],fun k hk=>?_⟩
 rw [List.length_set] at hk
 have h3:=h2 k hk
 have z:=(Array.getElem?_eq_some_iff.1 h3).1
 by_cases e:k=x
 ·subst e
  rw [Array.getElem?_setIfInBounds_self_of_lt z]
  simp [List.getD,hk]
 ·rw [Array.getElem?_setIfInBounds_ne (by omega),h3]
  simp [List.getD,List.getElem?_set_ne (fun h=>e h.symm)]
theorem PB.pl (h:PB w g L) {c:Nat} (hc:L.length≤c):PlAt w (some ⟨g,0,none⟩) c L:=⟨hc,Or.inr ⟨g,0,rfl,h.lt,fun j hj=>by rw [Nat.zero_add];exact h.cell hj⟩⟩
end
end Go.Proofs.YtenlladggdcfnaaGreatDoor
namespace Go.Proofs.YtenlladggdcfnaaGreatDoor
open Go Go.ChangeShapes Go.WideShapes Go.ChangeAt Go.RowKit Go.Shelf Go.Lib Go.Sort
set_option maxRecDepth 100000
structure OffG (g:Nat) (w w':World):Prop where
 os:w'.os=w.os
 tape:w'.tape=w.tape
 output:w'.output=w.output
 size:w.heap.size≤w'.heap.size
 block:∀ k,k<w.heap.size→k≠g→w'.heap[k]?=w.heap[k]?
theorem OffG.below {g B:Nat} {w0 w w':World} (h:OffG g w w') (hB:Below B w0 w) (hg:B≤g) (hs:B≤w.heap.size):Below B w0 w' :=
 ⟨h.os.trans hB.os,h.tape.trans hB.tape,h.output.trans hB.output,Nat.le_trans hB.size h.size,fun k hk=>(h.block k (by omega) (by omega)).trans (hB.block k hk)⟩
theorem heap_sortWorld {α:Type} [Inhabited α] (enc:α→Value) (w:World) (g n:Nat) (d:Array α) (os:Array Obj) {k:Nat} (hk:k<w.heap.size):(sortWorld enc w g 0 n d os).heap[k]?=if g=k then (w.heap[k]?).map (onCells (putCells enc 0 d)) else w.heap[k]?:=by
 show ((w.heap.modify g (onCells (putCells enc 0 d))) ++ os)[k]?=_
 rw [Array.getElem?_append_left (by simpa using hk),Array.getElem?_modify]
theorem offG_sort {α:Type} [Inhabited α] (enc:α→Value) (w:World) (g n:Nat) (d:Array α) (os:Array Obj):OffG g w (sortWorld enc w g 0 n d os) :=
 ⟨rfl,rfl,rfl,by show _≤((w.heap.modify g _) ++ os).size;simp,fun k hk hn=>by rw [heap_sortWorld enc w g n d os hk,if_neg (fun h=>hn h.symm)]⟩
theorem pb_sort {α:Type} [Inhabited α] (ix:α→Nat) {w:World} {g n:Nat} {d0 d:Array α} {os:Array Obj} {L:List Int} (h:IntB w g L) (hH:Holds (encI ix) w g 0 d0) (hs:d.size=d0.size):PB (sortWorld (encI ix) w g 0 n d os) g (d.toList.map fun x=>((ix x:Nat):Int)):=by
 have hh:=holds_sortWorld (encI ix) w g 0 n d0 d os h.lt hH hs
 have hb:=heap_sortWorld (encI ix) w g n d os h.lt
 rw [if_pos rfl,h] at hb
 refine ⟨_,hb,fun j hj=>?_⟩
 have hj':j<d.size:=by simpa using hj
 have:=(hh j hj').1
 rw [Lib.cell_of_heap hb,Nat.zero_add] at this
 rw [this]
 unfold encI
 rw [List.getD_eq_getElem?_getD,List.getElem?_map,getElem!_pos d j hj']
 simp [hj']
set_option maxHeartbeats 4000000 in
theorem sortst_any {α:Type} [Inhabited α] {cf:α→α→Int} {tot:α→α→Bool} {ix:α→Nat} {g:Nat} {cb:Array Value} {blk off:Nat} {d0:Array α} {w0:World} (M:MgC cf tot ix g cb blk off d0 w0)
  (cap n:Nat) (hn:d0.size=n) (h0:∀ i,i<n→ix d0[i]! = i) :
  Calls Tryz.prog 33 #[.slice (some ⟨blk,off,none⟩) n cap,.func (.func g) #[] cb] w0 fun e w'=>e=.returned (.tuple #[])∧∃ d',SortedIn tot 0 n d'∧PermIn 0 n d0 d'∧SW (encI ix) w0 blk off d' w':=by
 have hc:=stable_any M cap n d0 w0 hn rfl (SW.start M.R.hH) h0
 clear M
 go_enter Tryz.func33,Tryz.ntmps33
 go_wp2_with fail
 refine hc.mono ?_
 rintro e w' ⟨rfl,h⟩
 go_wp2_with fail
 go_end0
 exact ⟨rfl,h⟩
def cfW (n:Int) (W:List Int) (k:Nat) (x y:Fin (k+1)):Int:=cmpI (lkR n W y.val) (lkR n W x.val)
def totW (n:Int) (W:List Int) (k:Nat) (x y:Fin (k+1)):Bool:=prec n W x.val y.val
theorem tieW (n:Int) (W:List Int) (k:Nat):Tie (ltOf (cfW n W k)) (totW n W k) Fin.val where
 S:=by
  refine ⟨fun x=>?_,fun x y z h1 h2=>?_,fun x y z h1 h2=>?_⟩
  ·unfold totW prec;simp
  ·unfold totW prec at *;simp only [decide_eq_true_eq] at *;omega
  ·unfold totW prec at *;simp only [decide_eq_false_iff_not] at *;omega
 on:=fun x y h=>by
  unfold ltOf cfW totW prec cmpI
  by_cases h1:lkR n W y.val<lkR n W x.val
  ·rw [if_pos h1];simp [h1]
  ·rw [if_neg h1]
   by_cases h2:lkR n W x.val<lkR n W y.val
   ·rw [if_pos h2];simp;omega
   ·rw [if_neg h2];simp;omega
def ids (k:Nat):Array (Fin (k+1)):=Array.ofFn fun i=>i
theorem ids_size (k:Nat):(ids k).size=k+1:=by simp [ids]
theorem ids_at (k i:Nat) (h:i<k+1):((ids k)[i]!).val=i:=by rw [getElem!_pos (ids k) i (by rw [ids_size];exact h)];simp [ids]
theorem ids_list (k:Nat):(ids k).toList.map Fin.val=List.range (k+1):=by
 refine List.ext_getElem (by simp [ids]) fun i h1 h2=>?_
 have hi:i<k+1:=by simpa using h2
 rw [List.getElem_map,List.getElem_range]
 have:=ids_at k i hi
 rw [getElem!_pos (ids k) i (by rw [ids_size];exact hi)] at this
 simpa using this
theorem sortw_any (g c q1 q2 q3 q4:Nat) (n:Int) (A:Option Addr) (cA:Nat) (W:List Int) (w:World) (hW0:0<W.length) (hWk:W.length≤60) (hO:IntB w g (risL W.length))
  (HR:∀ w',OffG g w w'→RestA w' q1 q2 q3 n A cA W∧w'.cell? ⟨q4,0,none⟩=some (.func (.func 32) #[] #[.pointer (some ⟨q1,0,none⟩),.pointer (some ⟨q2,0,none⟩),.pointer (some ⟨q3,0,none⟩)]))
  (hs:0<W.sum) (hn:0≤n∧n≤1000000) (hW:∀ x∈W,0≤x∧x≤1000000) :
  Calls Tryz.prog 33 #[.slice (some ⟨g,0,none⟩) W.length c,.func (.func 34) #[] #[.pointer (some ⟨q4,0,none⟩)]] w fun e w'=>e=.returned (.tuple #[]) ∧
   (∃ O:List Nat,O.Perm (List.range W.length)∧(∀ a b,a<b→b<W.length→prec n W (O.getD a 0) (O.getD b 0)=true)∧PB w' g (O.map fun x:Nat=>(x:Int)))∧OffG g w w':=by
 obtain ⟨k,hk⟩:∃ k,W.length=k+1:=⟨W.length-1,by omega⟩
 have hH:Holds (encI (Fin.val:Fin (k+1)→Nat)) w g 0 (ids k):=fun j hj=>by
  rw [ids_size] at hj
  refine ⟨?_,hO.frozen _⟩
  rw [Nat.zero_add,hO.cell (j:=j) (by rw [risL_len];omega)]
  unfold encI
  rw [ids_at k j hj]
  congr 2
  unfold risL
  rw [List.getD_eq_getElem?_getD,List.getElem?_map,List.getElem?_range (by omega)];rfl
 have hread:CmpReads Tryz.prog 34 #[.pointer (some ⟨q4,0,none⟩)] (encI Fin.val) (cfW n W k) g 0 (ids k).size w:=fun m os dk _ x y=>by
  obtain ⟨h1,h2⟩:=HR _ (offG_sort (encI Fin.val) w g m dk os)
  exact less_any q1 q2 q3 q4 n A cA W x.val y.val _ h1 h2 (by have:=x.isLt;omega) (by have:=y.isLt;omega) hs hn hW
 have M:MgC (cfW n W k) (totW n W k) Fin.val 34 #[.pointer (some ⟨q4,0,none⟩)] g 0 (ids k) w :=
  ⟨fun args w=>by simp [callFunc,Tryz.func34];rfl,hread.lays,⟨fun _=>rfl,hH,hO.lt⟩,tieW n W k,by rw [ids_size];omega⟩
 rw [hk]
 refine (sortst_any M c (k+1) (ids_size k) (ids_at k)).mono ?_
 rintro e w' ⟨rfl,d,hS,hP,m,os,rfl⟩
 obtain ⟨o1,o2⟩:=order_of (n:=n) (W:=W) hk (tot:=totW n W k) (fun _ _=>rfl) (ids_list k) hS hP
 refine ⟨rfl,⟨_,by have:=o1;rw [hk] at this;exact this,fun a b h1 h2=>o2 a b h1 (by omega),?_⟩,offG_sort _ w g m d os⟩
 have:=pb_sort Fin.val (n:=m) (os:=os) hO hH hP.1
 rwa [List.map_map]
end Go.Proofs.YtenlladggdcfnaaGreatDoor
namespace Go.Proofs.YtenlladggdcfnaaGreatDoor
open Go.ChangeShapes Go.WideShapes Go.ChangeAt Go.RowKit
set_option maxRecDepth 20000
set_option maxHeartbeats 2000000 in
theorem leafs_any (d:Dm) (A:Option Addr) (cap:Nat) (i:Int) (w:World) (hM:MemsV w A cap d.n d.mem):Calls Tryz.prog 74 #[dimV d A cap,.int .i64 i] w fun e w'=>(∃ A' c',e=.returned (.tuple #[.slice A' (lst (treeErr d [i]) (leafsOf d.mem d.n i)).length c',errV (treeErr d [i])])∧IntsAt w' A' c' (lst (treeErr d [i]) (leafsOf d.mem d.n i)))∧Below w.heap.size w w':=by
 have hB0:=ownQ_below w d A cap i 81 3
 have hck:=tcheck_any d A cap _ 1 [i] (ownQ w d A cap i 81 3) (hM.later hB0) (by simp) (ownQ_ints ..)
 have HB0:Hid (Below w.heap.size w (ownQ w d A cap i 81 3)):=hB0
 have HM:Hid (MemsV w A cap d.n d.mem):=hM
 unfold dimV at hck ⊢
 simp only [List.length_singleton] at hck
 clear hM hB0
 by_cases he:treeErr d [i]=0
 ·obtain ⟨hd,k,rfl,hk⟩:=treeErr_in he
  rw [he,errV_zero] at hck
  obtain ⟨-,-,hd2,-⟩:=dimErr_right hd
  have ht:Tr d.mem d.n:=Tr.of hd
  have HR:Hid (lst (treeErr d [(k:Int)]) (leafsOf d.mem d.n k)=selTo (leafIn d.mem d.n k) d.n):=lst_ok he _
  have HE:Hid (errV (treeErr d [(k:Int)])=.nilIface):=by show _=_;rw [he];rfl
  have HT:Hid (Tr d.mem d.n):=ht
  clear he hd ht
  go_enter Tryz.func74,Tryz.ntmps74
  go_wp2_with fail
  refine hck.mono ?_
  rintro e w1 ⟨rfl,hb1⟩
  have hB:Below w.heap.size w w1:=onB HB0.out hb1
  have hz:w.heap.size+1<w1.heap.size:=by have:=hb1.size;rw [ownQ_size] at this;omega
  have hz0:w.heap.size<w1.heap.size:=by omega
  have h2:w1.cell? ⟨w.heap.size,2,none⟩=some (.slice A d.n cap):=(hb1.cell (p:=⟨w.heap.size,2,none⟩) (by show w.heap.size<_;rw [ownQ_size];omega)).trans (ownQ_dim ..)
  have h3:w1.cell? ⟨w.heap.size+1,0,none⟩=some (.int .i64 k):=(hb1.cell (p:=⟨w.heap.size+1,0,none⟩) (by show w.heap.size+1<_;rw [ownQ_size];omega)).trans (ownQ_int ..)
  obtain ⟨hcap,h0 | ⟨b,o,rfl,hMs⟩⟩:=HM.out.later hB
  ·omega
  have hpl:=places_any 100 w.heap.size (w.heap.size+1) leafs1_in (some ⟨b,o,none⟩) d.n cap (leafIn d.mem d.n k) w1 hd2 (fun j w' hj hw'=>leafs1_any b o d.n cap j w.heap.size (w.heap.size+1) d.mem k w' hj hd2 HT.out (hMs.later hw') (Nat.lt_of_lt_of_le hz0 hw'.size) (Nat.lt_of_lt_of_le hz hw'.size) ((hw'.cell (p:=⟨w.heap.size,2,none⟩) hz0).trans h2) ((hw'.cell (p:=⟨w.heap.size+1,0,none⟩) hz).trans h3))
  have HB:Hid (Below w.heap.size w w1):=hB
  clear hb1 hck hMs h3 hB
  go_wp2_with fail
  refine hpl.mono ?_
  rintro e w2 ⟨⟨A',c',rfl,hI⟩,hb2⟩
  go_wp2_with fail
  go_ret2
  rw [HR.out,HE.out]
  exact ⟨⟨A',c',rfl,hI⟩,onB HB.out hb2⟩
 ·have HR:Hid (lst (treeErr d [i]) (leafsOf d.mem d.n i)=[]):=lst_bad he _
  have HE:Hid (errV (treeErr d [i])=.iface 46 (.int .i64 (treeErr d [i]))):=errV_some he
  rw [errV_some he] at hck
  clear he
  generalize treeErr d [i]=c at hck HR HE
  go_enter Tryz.func74,Tryz.ntmps74
  go_wp2_with fail
  refine hck.mono ?_
  rintro e w1 ⟨rfl,hb1⟩
  go_wp2_with fail
  go_ret2
  rw [HR.out,HE.out]
  exact ⟨⟨none,0,rfl,IntsAt.nil _ _ _⟩,onB HB0.out hb1⟩
end Go.Proofs.YtenlladggdcfnaaGreatDoor
namespace Go.Proofs.YtenlladggdcfnaaGreatDoor
def inTo (D:Nat→Dm) (p q:List Int):Nat→Bool
 | 0=>true
 | k+1=>inTo D p q k && inB (pathOf (D k).mem (q.getD k 0)) (p.getD k 0)
def pwTo (D:Nat→Dm) (p q:List Int):Nat→Int
 | 0=>1
 | k+1=>pwTo D p q k*weightOf (D k).mem (p.getD k 0) (q.getD k 0)
theorem pwTo_out {D:Nat→Dm} {p q:List Int} {k:Nat} (h:inTo D p q k=false):pwTo D p q k=0:=by
 induction k with
 | zero=>simp [inTo] at h
 | succ k ih =>
  simp only [inTo,Bool.and_eq_false_iff] at h
  rcases h with h | h
  ·rw [pwTo,ih h,Int.zero_mul]
  ·have h1:p.getD k 0∉pathOf (D k).mem (q.getD k 0):=by unfold inB at h;exact of_decide_eq_false h
   rw [pwTo,weightOf,wgt_out _ h1,Int.mul_zero]
theorem weight_small {D:Nat→Dm} {n:Nat} {q:List Int} (hq:InO D n q) {k:Nat} (hk:k<n) (i:Int) : -1≤weightOf (D k).mem i (q.getD k 0)∧weightOf (D k).mem i (q.getD k 0)≤1:=by
 have hd:=(allErr_right hq.right).2 k hk
 have hlo:=hq.lo k hk
 have hhi:=hq.hi k hk
 have ht:Tr (D k).mem (D k).n:=Tr.of hd
 refine wgt_small (Sg.of hd) i _ (fun j hj=>?_) 1 (by omega)
 have:=pathOf_mem ht (D k).n (q.getD k 0) hhi hhi j hj
 omega
theorem pwTo_small {D:Nat→Dm} {n:Nat} {q:List Int} (hq:InO D n q) (p:List Int):∀ k,k≤n→-1≤pwTo D p q k∧pwTo D p q k≤1
 | 0,_=>by simp [pwTo]
 | k+1,hk=>by
  rw [pwTo]
  exact small_mul (pwTo_small hq p k (by omega)) (weight_small hq (by omega) _)
def lfs (D:Nat→Dm) (p:List Int) (i:Nat):List Int:=leafsOf (D i).mem (D i).n (p.getD i 0)
def cnts (d:Dm) (i:Int) (X:List Int):List Int:=(List.range d.n).map fun (k:Nat)=>if (k:Int)∈X then weightOf d.mem i (k:Int) else 0
theorem cnts_len (d:Dm) (i:Int) (X:List Int):(cnts d i X).length=d.n:=by simp [cnts]
theorem cnts_nil (d:Dm) (i:Int):cnts d i []=List.replicate d.n 0:=by
 apply List.ext_getElem
 ·simp [cnts]
 ·intro j h1 h2;simp [cnts]
theorem cnts_at {d:Dm} {i:Int} {X:List Int} {k:Nat} (hk:k<d.n):(cnts d i X).getD k 0=if (k:Int)∈X then weightOf d.mem i k else 0:=by
 simp [cnts,List.getD,hk]
theorem cnts_set {d:Dm} {i:Int} {X:List Int} {k:Nat}:(cnts d i X).set k (weightOf d.mem i k)=cnts d i (X ++ [(k:Int)]):=by
 apply List.ext_getElem
 ·simp [cnts]
 ·intro j h1 h2
  rw [List.getElem_set]
  by_cases e:k=j
  ·subst e;simp [cnts]
  ·have e' : ¬ ((j:Int)=(k:Int)):=by omega
   rw [if_neg e];simp [cnts,e']
theorem sel_in {p:Nat→Bool} {k m:Nat} (hm:m<k) (hp:p m=true):(m:Int)∈selTo p k:=by
 induction k with
 | zero=>omega
 | succ k ih =>
  by_cases e:m=k
  ·subst e;rw [selTo_hit hp];simp
  ·have h1:=ih (by omega)
   cases hk:p k
   ·rw [selTo_miss hk];exact h1
   ·rw [selTo_hit hk];simp [h1]
theorem lfs_mem {D:Nat→Dm} {p:List Int} {i:Nat}:∀ j∈lfs D p i,∃ m:Nat,j=m∧m<(D i).n∧leafIn (D i).mem (D i).n (p.getD i 0) m=true:=selTo_mem
theorem lfs_len (D:Nat→Dm) (p:List Int) (i:Nat):(lfs D p i).length≤(D i).n:=selTo_len _ _
def wts (D:Nat→Dm) (p:List Int) (i:Nat):List Int:=cnts (D i) (p.getD i 0) (lfs D p i)
theorem wts_at {D:Nat→Dm} {p:List Int} {i k:Nat} (hk:k<(D i).n) (hl:leafB (D i).mem (D i).n k=true):(wts D p i).getD k 0=weightOf (D i).mem (p.getD i 0) k:=by
 unfold wts
 rw [cnts_at hk]
 by_cases h:(k:Int)∈lfs D p i
 ·rw [if_pos h]
 ·rw [if_neg h]
  have h1:inB (pathOf (D i).mem k) (p.getD i 0)=false:=by
   cases hb:inB (pathOf (D i).mem k) (p.getD i 0)
   ·rfl
   ·exact absurd (sel_in hk (by unfold leafIn;rw [hl,hb];rfl)) h
  have h2:p.getD i 0∉pathOf (D i).mem k:=by unfold inB at h1;exact of_decide_eq_false h1
  rw [weightOf,wgt_out _ h2]
theorem wts_small {D:Nat→Dm} {n:Nat} (hR:(allErr D n).2.2=0) (p:List Int) {i:Nat} (hi:i<n) (k:Nat) : -1≤(wts D p i).getD k 0∧(wts D p i).getD k 0≤1:=by
 by_cases hk:k<(D i).n
 ·unfold wts
  rw [cnts_at hk]
  split
  ·have hd:=(allErr_right hR).2 i hi
   refine wgt_small (Sg.of hd) _ _ (fun j hj=>?_) 1 (by omega)
   have:=pathOf_mem (Tr.of hd) (D i).n k (by omega) (by omega) j hj
   omega
  ·omega
 ·have:(wts D p i).getD k 0=0:=by unfold wts;rw [List.getD_eq_getElem?_getD,List.getElem?_eq_none (by rw [cnts_len];omega)];rfl
  rw [this];omega
def prTo (R:Nat→List Int) (q:List Int):Nat→Int
 | 0=>1
 | k+1=>prTo R q k*(R k).getD (q.getD k 0).toNat 0
theorem leaf_each {D:Nat→Dm} {n:Nat} {q:List Int} (h:leafV D n q=true):∀ k,k<n→leafB (D k).mem (D k).n (q.getD k 0).toNat=true:=by
 unfold leafV at h
 split at h
 ·intro k hk
  cases hb:leafB (D k).mem (D k).n (q.getD k 0).toNat
  ·have h1:∀ m i,i≤k→k<i+m→0≤findFrom (notLeaf D q) m i:=by
    intro m
    induction m with
    | zero=>intro i h1 h2;omega
    | succ m ih =>
     intro i h1 h2
     cases hn:notLeaf D q i
     ·rw [findFrom_miss _ hn]
      refine ih (i+1) ?_ (by omega)
      rcases Nat.lt_or_ge i k with h3 | h3
      ·omega
      ·have:i=k:=by omega
       subst this
       unfold notLeaf at hn
       rw [hb] at hn
       cases hn
     ·rw [findFrom_hit _ hn];omega
   have:=h1 n 0 (by omega) (by omega)
   rw [decide_eq_true this] at h
   cases h
  ·rfl
 ·cases h
theorem leaf_all {D:Nat→Dm} {n:Nat} {q:List Int} (hq:InO D n q) (h:∀ k,k<n→leafB (D k).mem (D k).n (q.getD k 0).toNat=true):leafV D n q=true:=by
 unfold leafV
 rw [if_pos hq.ok]
 have h1:∀ m i,i+m≤n→findFrom (notLeaf D q) m i<0:=by
  intro m
  induction m with
  | zero=>intro i _;simp [findFrom]
  | succ m ih =>
   intro i hi
   have hn:notLeaf D q i=false:=by unfold notLeaf;rw [h i (by omega)];rfl
   rw [findFrom_miss _ hn]
   exact ih (i+1) (by omega)
 have:=h1 n 0 (by omega)
 rw [decide_eq_false (by omega)]
 rfl
theorem pr_wts {D:Nat→Dm} {n:Nat} {q:List Int} (hq:InO D n q) (hl:leafV D n q=true) (p:List Int):∀ k,k≤n→prTo (wts D p) q k=pwTo D p q k
 | 0,_=>rfl
 | k+1,hk=>by
  have hlo:=hq.lo k (by omega)
  have hhi:=hq.hi k (by omega)
  rw [prTo,pwTo,pr_wts hq hl p k (by omega),wts_at (by omega) (leaf_each hl k (by omega)),show ((q.getD k 0).toNat:Int)=q.getD k 0 by omega]
theorem prTo_small {D:Nat→Dm} {n:Nat} (hR:(allErr D n).2.2=0) (p q:List Int):∀ k,k≤n→-1≤prTo (wts D p) q k∧prTo (wts D p) q k≤1
 | 0,_=>by simp [prTo]
 | k+1,hk=>by
  rw [prTo]
  exact small_mul (prTo_small hR p q k (by omega)) (wts_small hR p (by omega) _)
def longL (Ps:List (List Int)) (X:List Int):List (List Int):=Ps.flatMap fun h=>X.map fun k=>h ++ [k]
theorem longL_cons (h:List Int) (Ps:List (List Int)) (X:List Int):longL (h :: Ps) X=(X.map fun k=>h ++ [k]) ++ longL Ps X:=by simp [longL]
theorem longL_len (Ps:List (List Int)) (X:List Int):(longL Ps X).length=Ps.length*X.length:=by
 induction Ps with
 | nil=>simp [longL]
 | cons h r ih=>rw [longL_cons,List.length_append,ih,List.length_map,List.length_cons,Nat.succ_mul];omega
theorem longL_snoc (Ps:List (List Int)) (h:List Int) (X:List Int):longL (Ps ++ [h]) X=longL Ps X ++ X.map fun k=>h ++ [k]:=by simp [longL]
def lfTo (D:Nat→Dm) (p:List Int):Nat→List (List Int)
 | 0=>[[]]
 | k+1=>longL (lfTo D p k) (lfs D p k)
theorem lfTo_len {D:Nat→Dm} (p:List Int):∀ k,(lfTo D p k).length≤prodN D k
 | 0=>by simp [lfTo,prodN]
 | k+1=>by
  rw [lfTo,longL_len,prodN]
  exact Nat.mul_le_mul (lfTo_len p k) (lfs_len D p k)
theorem lfTo_each {D:Nat→Dm} (p:List Int):∀ k,∀ q∈lfTo D p k,q.length=k
 | 0,q,h=>by simp [lfTo] at h;simp [h]
 | k+1,q,h=>by
  simp only [lfTo,longL,List.mem_flatMap,List.mem_map] at h
  obtain ⟨h1,h2,x,h3,rfl⟩:=h
  simp [lfTo_each p k h1 h2]
def allTo (D:Nat→Dm):Nat→List (List Int)
 | 0=>[[]]
 | k+1=>longL (allTo D k) ((List.range (D k).n).map fun j=>((j:Nat):Int))
theorem allTo_each {D:Nat→Dm}:∀ k,∀ q∈allTo D k,q.length=k
 | 0,q,h=>by simp [allTo] at h;simp [h]
 | k+1,q,h=>by
  simp only [allTo,longL,List.mem_flatMap,List.mem_map] at h
  obtain ⟨h1,h2,x,h3,rfl⟩:=h
  simp [allTo_each k h1 h2]
theorem rest_next (D:Nat→Dm) (k x:Nat):∀ r,restAt D (k+1) x (r+1)=restAt D k (x / (D k).n) r
 | 0=>by simp [restAt]
 | r+1=>by
  rw [restAt,rest_next D k x r]
  conv=>rhs;rw [restAt]
  rw [show k+1-1-(r+1)=k-1-r by omega]
theorem place_next (D:Nat→Dm) (k x:Nat):placeL D (k+1) x=placeL D k (x / (D k).n) ++ [((x % (D k).n:Nat):Int)]:=by
 unfold placeL
 rw [List.range_succ,List.map_append]
 congr 1
 ·apply List.map_congr_left
  intro j hj
  have hj':j<k:=by simpa using hj
  unfold digitAt
  rw [show k+1-1-j=(k-1-j)+1 by omega,rest_next]
 ·simp [digitAt,restAt]
theorem range_mul {α:Type} (f:Nat→α) (a b:Nat):(List.range (a*b)).map f=(List.range a).flatMap fun i=>(List.range b).map fun j=>f (i*b+j):=by
 induction a with
 | zero=>simp
 | succ a ih =>
  rw [Nat.succ_mul,List.range_add,List.map_append,ih,List.range_succ,List.flatMap_append]
  simp [Function.comp_def]
theorem all_range (D:Nat→Dm):∀ k,(∀ j,j<k→1≤(D j).n)→(List.range (prodN D k)).map (placeL D k)=allTo D k
 | 0,_=>by simp [prodN,allTo,placeL]
 | k+1,h=>by
  have hk:=h k (by omega)
  rw [prodN,range_mul,allTo,←all_range D k fun j hj=>h j (by omega)]
  unfold longL
  rw [List.flatMap_map]
  congr 1
  funext i
  rw [List.map_map]
  apply List.map_congr_left
  intro j hj
  have hj':j<(D k).n:=by simpa using hj
  rw [place_next,show i*(D k).n+j=j+(D k).n*i by rw [Nat.mul_comm];omega,Nat.add_mul_div_left _ _ hk,Nat.add_mul_mod_self_left,Nat.div_eq_of_lt hj',Nat.mod_eq_of_lt hj',Nat.zero_add]
  rfl
def okTo (D:Nat→Dm) (p q:List Int):Nat→Bool
 | 0=>true
 | k+1=>okTo D p q k && leafIn (D k).mem (D k).n (p.getD k 0) (q.getD k 0).toNat
theorem okTo_head {D:Nat→Dm} {p h:List Int} {x:Int}:∀ k,k≤h.length→okTo D p (h ++ [x]) k=okTo D p h k
 | 0,_=>rfl
 | k+1,hk=>by
  rw [okTo,okTo,okTo_head k (by omega)]
  congr 3
  simp only [List.getD_eq_getElem?_getD]
  rw [List.getElem?_append_left (by omega)]
theorem filter_long {P:List Int→Bool} {p1:List Int→Bool} {p2:Int→Bool} {X:List Int}:∀ Ps:List (List Int),(∀ h∈Ps,∀ x,P (h ++ [x])=(p1 h && p2 x))→(longL Ps X).filter P=longL (Ps.filter p1) (X.filter p2)
 | [],_=>rfl
 | h :: r,hh=>by
  rw [longL_cons,List.filter_append,filter_long r fun a ha=>hh a (List.mem_cons_of_mem _ ha),List.filter_map]
  have e:(P ∘ fun k=>h ++ [k])=fun x=>(p1 h && p2 x):=funext fun x=>hh h (List.mem_cons_self ..) x
  rw [e,List.filter_cons]
  cases h1:p1 h
  ·simp
  ·simp only [Bool.true_and,if_true]
   rw [longL_cons]
theorem sel_filter (f:Nat→Bool):∀ n,((List.range n).map fun j=>((j:Nat):Int)).filter (fun x=>f x.toNat)=selTo f n
 | 0=>rfl
 | n+1=>by
  rw [List.range_succ,List.map_append,List.filter_append,sel_filter f n]
  cases h:f n
  ·rw [selTo_miss h];simp [h]
  ·rw [selTo_hit h];simp [h]
theorem all_filter (D:Nat→Dm) (p:List Int):∀ k,(allTo D k).filter (fun q=>okTo D p q k)=lfTo D p k
 | 0=>rfl
 | k+1=>by
  rw [allTo,filter_long (p1:=fun q=>okTo D p q k) (p2:=fun x=>leafIn (D k).mem (D k).n (p.getD k 0) x.toNat),all_filter D p k,lfTo,sel_filter]
  ·rfl
  ·intro h hh x
   have hl:=allTo_each k h hh
   rw [okTo,okTo_head k (by omega)]
   congr 2
   rw [List.getD_eq_getElem?_getD,List.getElem?_append_right (by omega),hl,Nat.sub_self]
   rfl
theorem ok_is {D:Nat→Dm} {n:Nat} {p q:List Int} (hq:InO D n q):okTo D p q n=(leafV D n q && inTo D p q n):=by
 have h1:∀ k,k≤n→(okTo D p q k=true↔(∀ j,j<k→leafB (D j).mem (D j).n (q.getD j 0).toNat=true)∧inTo D p q k=true):=by
  intro k
  induction k with
  | zero=>intro _;simp [okTo,inTo]
  | succ k ih =>
   intro hk
   have hlo:=hq.lo k (by omega)
   have e:((q.getD k 0).toNat:Int)=q.getD k 0:=by omega
   have ih':=ih (by omega)
   simp only [okTo,inTo,leafIn,Bool.and_eq_true,e]
   rw [ih']
   constructor
   ·rintro ⟨⟨a,b⟩,c,d⟩
    refine ⟨fun j hj=>?_,b,d⟩
    rcases Nat.lt_succ_iff_lt_or_eq.1 hj with h | rfl
    ·exact a j h
    ·exact c
   ·rintro ⟨a,b,d⟩
    exact ⟨⟨fun j hj=>a j (by omega),b⟩,a k (by omega),d⟩
 have h2:=h1 n (Nat.le_refl _)
 cases hl:leafV D n q
 ·rw [Bool.false_and]
  cases ho:okTo D p q n
  ·rfl
  ·rw [leaf_all hq (h2.1 ho).1] at hl
   cases hl
 ·rw [Bool.true_and]
  cases hi:inTo D p q n
  ·cases ho:okTo D p q n
   ·rfl
   ·rw [(h2.1 ho).2] at hi
    cases hi
  ·exact h2.2 ⟨leaf_each hl,hi⟩
def docL (D:Nat→Dm) (n:Nat) (p:List Int) (m:Nat):List (List Int):=((List.range m).map (placeL D n)).filter fun q=>leafV D n q && inTo D p q n
theorem docL_all {D:Nat→Dm} {n:Nat} (hR:(allErr D n).2.2=0) (p:List Int):docL D n p (prodN D n)=lfTo D p n:=by
 obtain ⟨-,-,-,hd⟩:=allErr_some hR
 rw [←all_filter,←all_range D n fun j hj=>(hd j hj).1]
 unfold docL
 apply List.filter_congr
 intro q hq
 simp only [List.mem_map] at hq
 obtain ⟨x,-,rfl⟩:=hq
 exact (ok_is (placeL_in hR)).symm
theorem docL_step (D:Nat→Dm) (n:Nat) (p:List Int) (m:Nat):docL D n p (m+1)=docL D n p m ++ (if (leafV D n (placeL D n m) && inTo D p (placeL D n m) n)=true then [placeL D n m] else []):=by
 unfold docL
 rw [List.range_succ,List.map_append,List.filter_append]
 congr 1
 simp only [List.map_cons,List.map_nil,List.filter_cons,List.filter_nil]
theorem docL_len (D:Nat→Dm) (n:Nat) (p:List Int) (m:Nat):(docL D n p m).length≤m:=by
 unfold docL
 refine Nat.le_trans (List.length_filter_le _ _) ?_
 simp
end Go.Proofs.YtenlladggdcfnaaGreatDoor
namespace Go.Proofs.YtenlladggdcfnaaGreatDoor
open Go.ChangeShapes Go.WideShapes Go.ChangeAt Go.RowKit
set_option maxRecDepth 20000
theorem rcheck_any (d:Dm) (A:Option Addr) (cap:Nat) (w:World) (hM:MemsV w A cap d.n d.mem):Calls Tryz.prog 44 #[dimV d A cap] w fun e w'=>e=.returned (.tuple #[.int .i64 (rErr d).1,errV (rErr d).2])∧Below w.heap.size w w':=by
 have hB0:=ownDim_below w d A cap 81
 have hn:=rneeds_any d A cap (ownDim w d A cap 81) (hM.later hB0)
 obtain ⟨d0,d1,d2,hqW⟩:=dim_cells (w:=w) (d:=d) (A:=A) (cap:=cap) (Below.refl _ _)
 have HB0:Hid (Below w.heap.size w (ownDim w d A cap 81)):=hB0
 unfold dimV at hn ⊢
 obtain ⟨W,hW⟩:∃ W,ownDim w d A cap 81=W:=⟨_,rfl⟩
 rw [hW] at d0 d1 d2 hqW HB0 hn
 unfold ownDim at hW
 generalize errV (rErr d).2=ev at hn ⊢
 generalize (rErr d).1=x at hn ⊢
 clear hM hB0
 go_enter Tryz.func44,Tryz.ntmps44
 go_wp2_with fail
 refine hn.mono ?_
 rintro e w1 ⟨⟨A1,c1,xs,rfl,-⟩,hb1⟩
 go_wp2_with fail
 go_ret2
 exact ⟨rfl,onB HB0.out hb1⟩
set_option maxHeartbeats 2000000 in
theorem rparts_any (d:Dm) (b o cap:Nat) (i:Int) (w:World) (hn:d.n≤12) (hM:MemsAt w b o d.n d.mem):Calls Tryz.prog 88 #[.agg #[.string d.name,.int .i64 d.solve,.slice (some ⟨b,o,none⟩) d.n cap],.int .i64 i] w fun e w'=>(∃ A c,e=.returned (.slice A (partsOf d.mem d.n i).length c)∧IntsAt w' A c (partsOf d.mem d.n i))∧Below w.heap.size w w':=by
 obtain ⟨i0,hi0,hz0,hz1,hz2⟩:=info_parts Tryz.infoInt
 have hS:=ownDim_size w d (some ⟨b,o,none⟩) cap 81
 have hB0:=ownDim_below w d (some ⟨b,o,none⟩) cap 81
 have hA:=(ownDim_at w d (some ⟨b,o,none⟩) cap 81).2.2
 obtain ⟨W,hW⟩:∃ W,W=ownDim w d (some ⟨b,o,none⟩) cap 81:=⟨_,rfl⟩
 rw [←hW] at hS hB0 hA
 have HW:Hid (W=ownDim w d (some ⟨b,o,none⟩) cap 81):=hW
 have HB0:Hid (Below w.heap.size w W):=hB0
 have HM:Hid (MemsAt W b o d.n d.mem):=hM.later hB0
 have HA:Hid (W.cell? ⟨w.heap.size,2,none⟩=some (.slice (some ⟨b,o,none⟩) d.n cap)):=hA
 have hsz:w.heap.size<W.heap.size:=by omega
 have hn':(d.n:Int)≤12:=by omega
 obtain ⟨p,hp⟩:∃ p:Nat→Bool,p=partB d.mem i:=⟨_,rfl⟩
 have HP:Hid (p=partB d.mem i):=hp
 unfold partsOf
 rw [←hp]
 clear hM hW hB0 hA hS hp
 go_enter Tryz.func88,Tryz.ntmps88
 go_wp2_with fail
 go_loopg [5,6] d.n (fun g s5 s6 wr => ∃ (k:Nat),k≤d.n∧g=d.n-k∧s6=.int .i64 k∧wr.ownsRow W.heap.size 3 1 s5 (selTo p k).length (mapI (selTo p k))∧Below W.heap.size W wr)
 case atStart=>exact ⟨0,Nat.zero_le _,rfl,rfl,World.ownsRow_nil _ _ _ _,by rw [HW.out];exact Below.refl _ _⟩
 case round =>
  obtain ⟨k,hk,rfl,rfl,hown,hBw⟩:=hrel
  have HWr:Hid (Below W.heap.size W wr):=hBw
  have HO:Hid (wr.ownsRow W.heap.size 3 1 _ (selTo p k).length (mapI (selTo p k))):=hown
  have c2:wr.cell? ⟨w.heap.size,2,none⟩=some (.slice (some ⟨b,o,none⟩) d.n cap):=(hBw.cell (p:=⟨w.heap.size,2,none⟩) hsz).trans HA.out
  have hszr:=hBw.size
  by_cases hlt:k<d.n
  ·have hki:(k:Int)<(d.n:Int):=by omega
   obtain ⟨-,h1,-,-⟩:=(HM.out.later hBw).2 k hlt
   have hlen:=selTo_len p k
   have hpk:p k=((d.mem k).parent == i):=by rw [HP.out];rfl
   clear hBw
   cases hb:p k
   ·have HK:Hid (p k=false):=hb
    rw [hb] at hpk
    have hpe:((d.mem k).parent == i)=false:=hpk.symm
    clear hb hpk hown
    go_wp2_with fail
    go_roundg (d.n-(k+1))
    case measure=>omega
    case rel=>exact ⟨k+1,by omega,rfl,by go_num,by rw [selTo_miss HK.out];exact HO.out,HWr.out⟩
   ·have HK:Hid (p k=true):=hb
    rw [hb] at hpk
    have hpe:((d.mem k).parent == i)=true:=hpk.symm
    clear hb hpk
    go_wp2_with (at_builtin;refine wpList_append_own _ rfl _ _ 22 rfl W.heap.size 3 i0 (.int .i64 0) 1 8 Tryz.underlying22 hi0 hz0 hz1 hz2 rfl (by decide) _ _ _ rfl (hown.alloc _) ⟨wr.heap.size,0,none⟩ 1 1 [.int .i64 k] rfl rfl one_cell one_one (by unfold maxLen;omega) (by omega) (by simp;omega) ?_)
    intro v' w2 hown' hgrow _
    have HB2:Hid (Below W.heap.size W w2):=grown_own HWr.out hown hgrow
    have HO2:Hid (w2.ownsRow W.heap.size 3 1 v' (selTo p (k+1)).length (mapI (selTo p (k+1)))):=by
     show World.ownsRow ..
     rw [selTo_hit HK.out,mapI_snoc,List.length_append];exact hown'
    clear hown' hgrow hown c2
    go_wp2_with fail
    go_roundg (d.n-(k+1))
    case measure=>omega
    case rel=>exact ⟨k+1,by omega,rfl,by go_num,HO2.out,HB2.out⟩
  ·have hke:k=d.n:=by omega
   subst hke
   clear hBw hown
   go_wp2_with fail
   go_ret
   obtain ⟨A,c,h1,h2⟩:=ints_of HO.out
   exact ⟨⟨A,c,by rw [←h1];rfl,h2⟩,onB HB0.out HWr.out⟩
theorem sel_empty {p:Nat→Bool} {n:Nat}:((selTo p n).length=0)↔¬ 0≤findFrom p n 0:=by
 rcases findFrom_cases p n 0 with ⟨h1,h2⟩ | ⟨k,h1,_,h3,h4,_⟩
 ·rw [h1,selTo_none (fun j hj=>h2 j (Nat.zero_le _) (by omega))]
  simp
 ·rw [h1]
  constructor
  ·intro h
   have h5:∀ m,k<m→0<(selTo p m).length:=fun m hm=>by
    induction m with
    | zero=>omega
    | succ m ih =>
     rw [selTo,List.length_append]
     by_cases hk:k=m
     ·subst hk;rw [if_pos h4];simp
     ·have:=ih (by omega);omega
   have:=h5 n (by omega)
   omega
  ·intro h;omega
set_option maxHeartbeats 2000000 in
theorem rleaf_any (d:Dm) (b o cap i:Nat) (w:World) (hn:d.n≤12) (hi:i<d.n) (hM:MemsAt w b o d.n d.mem):Calls Tryz.prog 63 #[.agg #[.string d.name,.int .i64 d.solve,.slice (some ⟨b,o,none⟩) d.n cap],.int .i64 i] w fun e w'=>e=.returned (.bool (leafB d.mem d.n i))∧Below w.heap.size w w':=by
 have hS:=ownDim_size w d (some ⟨b,o,none⟩) cap 81
 have hB0:=ownDim_below w d (some ⟨b,o,none⟩) cap 81
 have hM0:=hM.later hB0
 have hpt:=rparts_any d b o cap i (ownDim w d (some ⟨b,o,none⟩) cap 81) hn hM0
 have HB0:Hid (Below w.heap.size w (ownDim w d (some ⟨b,o,none⟩) cap 81)):=hB0
 obtain ⟨-,-,-,h3⟩:=hM.2 i hi
 have hbw:=hM.1
 have hii:(i:Int)<(d.n:Int):=by omega
 have hn':(d.n:Int)≤12:=by omega
 clear hM hM0 hB0 hS
 by_cases hf:(d.mem i).formula.size=0
 ·have hf':(d.mem i).formula.toList.isEmpty=true:=by rw [empty_same];simpa using hf
  have HR:Hid (leafB d.mem d.n i=(((partsOf d.mem d.n i).length:Int) == 0)):=by
   show _=_
   rw [leafB_parts hf,Bool.eq_iff_iff]
   have:=sel_empty (p:=partB d.mem i) (n:=d.n)
   simp only [Bool.not_eq_true',decide_eq_false_iff_not,beq_iff_eq]
   rw [←this]
   show _↔((partsOf d.mem d.n i).length:Int)=0
   unfold partsOf
   omega
  clear hf
  generalize (partsOf d.mem d.n i).length=np at hpt HR
  go_enter Tryz.func63,Tryz.ntmps63
  go_wp2_with fail
  refine hpt.mono ?_
  rintro e w1 ⟨⟨A',c',rfl,hI⟩,hb1⟩
  go_wp2_with fail
  go_ret
  exact ⟨by rw [HR.out];rfl,onB HB0.out hb1⟩
 ·have hf':(d.mem i).formula.toList.isEmpty=false:=by rw [empty_same];simpa using hf
  have HR:Hid (leafB d.mem d.n i=false):=leafB_told hf
  clear hf hpt
  go_enter Tryz.func63,Tryz.ntmps63
  go_wp2_with fail
  go_ret
  exact ⟨by rw [HR.out];rfl,by go_grown⟩
theorem in_cons {i x:Int} {t:List Int} (h:x≠i):inB (x :: t) i=inB t i:=by
 unfold inB;rw [decide_eq_decide,List.mem_cons]
 exact ⟨fun h1=>h1.resolve_left fun e=>h e.symm,Or.inr⟩
theorem in_head {i:Int} {t:List Int}:inB (i :: t) i=true:=by simp [inB]
set_option maxHeartbeats 2000000 in
theorem rweight_any (d:Dm) (b o cap i j:Nat) (w:World) (hn:d.n≤12) (hj:j<d.n) (ht:Tr d.mem d.n) (hs:Sg d.mem d.n) (hM:MemsAt w b o d.n d.mem):Calls Tryz.prog 41 #[.agg #[.string d.name,.int .i64 d.solve,.slice (some ⟨b,o,none⟩) d.n cap],.int .i64 i,.int .i64 j] w fun e w'=>e=.returned (.tuple #[.int .i64 (weightOf d.mem i j),.bool (inB (pathOf d.mem j) i)])∧Below w.heap.size w w':=by
 have hS:=ownDim_size w d (some ⟨b,o,none⟩) cap 81
 have hB0:=ownDim_below w d (some ⟨b,o,none⟩) cap 81
 have hA:=(ownDim_at w d (some ⟨b,o,none⟩) cap 81).2.2
 obtain ⟨W,hW⟩:∃ W,W=ownDim w d (some ⟨b,o,none⟩) cap 81:=⟨_,rfl⟩
 rw [←hW] at hS hB0 hA
 have HW:Hid (W=ownDim w d (some ⟨b,o,none⟩) cap 81):=hW
 have HB0:Hid (Below w.heap.size w W):=hB0
 have HM:Hid (MemsAt W b o d.n d.mem):=hM.later hB0
 have HA:Hid (W.cell? ⟨w.heap.size,2,none⟩=some (.slice (some ⟨b,o,none⟩) d.n cap)):=hA
 have hsz:w.heap.size<W.heap.size:=by omega
 have hn':(d.n:Int)≤12:=by omega
 have HT:Hid (Tr d.mem d.n):=ht
 have HS:Hid (Sg d.mem d.n):=hs
 obtain ⟨wv,hwv⟩:∃ x,weightOf d.mem i j=x:=⟨_,rfl⟩
 obtain ⟨wi,hwi⟩:∃ x,inB (pathOf d.mem j) i=x:=⟨_,rfl⟩
 have HV:Hid (wgt d.mem i (pathOf d.mem j) 1=wv):=hwv
 have HI:Hid (inB (pathOf d.mem j) i=wi):=hwi
 rw [hwv,hwi]
 clear hM hW hB0 hA hS ht hs hwv hwi
 go_enter Tryz.func41,Tryz.ntmps41
 go_wp2_with fail
 go_loopg [2,8] (j+1) (fun g s2 s8 wr => ∃ (x a:Int),-1≤x∧x<d.n∧g=(x+1).toNat∧s2=.int .i64 x∧s8=.int .i64 a∧(-1≤a∧a≤1)∧wgt d.mem i (pathOf d.mem x) a=wv∧inB (pathOf d.mem x) i=wi∧wr=W)
 case atStart=>exact ⟨j,1,by omega,by omega,by omega,rfl,rfl,by omega,HV.out,HI.out,HW.out.symm⟩
 case round =>
  obtain ⟨x,a,hx1,hx2,rfl,rfl,rfl,ha,hf1,hf2,rfl⟩:=hrel
  have HF1:Hid (wgt d.mem i (pathOf d.mem x) a=wv):=hf1
  have HF2:Hid (inB (pathOf d.mem x) i=wi):=hf2
  have hA:=HA.out
  clear hf1 hf2
  by_cases h0:0≤x
  ·obtain ⟨m,rfl⟩:∃ m:Nat,x=m:=⟨x.toNat,by omega⟩
   have hmn:m<d.n:=by omega
   have HC:Hid (pathOf d.mem m=(m:Int) :: pathOf d.mem (d.mem m).parent):=pathOf_cons HT.out hmn
   by_cases hq:m=i
   ·subst hq
    have HR:Hid (a=wv∧true=wi):=⟨by rw [←HF1.out,HC.out,wgt_hit],by rw [←HF2.out,HC.out,in_head]⟩
    go_wp2_with fail
    go_ret2
    rw [←HR.out.1,←HR.out.2]
    exact ⟨rfl,HB0.out⟩
   ·have hq':((m:Int) == (i:Int))=false:=beq_eq_false_iff_ne.2 (by omega)
    obtain ⟨-,p1,p2,-⟩:=HM.out.2 m hmn
    have hsm:=HS.out m hmn
    have htm:=HT.out m hmn
    have hmul:=small_mul ha hsm
    have HMul:Hid (-1≤a*(d.mem m).sign∧a*(d.mem m).sign≤1):=hmul
    have HR1:Hid (wgt d.mem i (pathOf d.mem (d.mem m).parent) (a*(d.mem m).sign)=wv):=by show _=_;rw [←HF1.out,HC.out,wgt_miss (by omega)];rfl
    have HR2:Hid (inB (pathOf d.mem (d.mem m).parent) i=wi):=by show _=_;rw [←HF2.out,HC.out,in_cons (by omega)]
    have hmi:(m:Int)<(d.n:Int):=by omega
    have HTm:Hid (-1≤(d.mem m).parent∧(d.mem m).parent<(m:Int)):=htm
    clear hq htm
    go_wp2_with fail
    go_roundg ((d.mem m).parent+1).toNat
    case measure=>have:=HTm.out;omega
    case rel=>exact ⟨(d.mem m).parent,a*(d.mem m).sign,HTm.out.1,by have:=HTm.out;omega,rfl,rfl,by go_num,HMul.out,HR1.out,HR2.out,rfl⟩
  ·have hk:x<0:=by omega
   have hq':(x == (i:Int))=false:=beq_eq_false_iff_ne.2 (by omega)
   have HR:Hid (0=wv∧false=wi):=⟨by rw [←HF1.out,pathOf_neg hk];rfl,by rw [←HF2.out,pathOf_neg hk];rfl⟩
   go_wp2_with fail
   go_ret2
   rw [←HR.out.1,←HR.out.2]
   exact ⟨rfl,HB0.out⟩
end Go.Proofs.YtenlladggdcfnaaGreatDoor
