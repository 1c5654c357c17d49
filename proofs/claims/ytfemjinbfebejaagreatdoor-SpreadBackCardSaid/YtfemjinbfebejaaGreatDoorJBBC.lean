/-
  byWeight's order: the numbers 0, 1, .. in a block of a call's own, sorted by who has the greater rest.
-/
import Derived.Lib.AppendZerosOnto
import Derived.Test.YtfemjinbfebejaaGreatDoorJBBB
namespace Go.Proofs.YtfemjinbfebejaaGreatDoor
open Go Go.ChangeShapes Go.WideShapes Go.ChangeAt Go.RowKit Go.Shelf Go.Lib Go.Sort
set_option maxRecDepth 100000
structure OffG (g:Nat) (w w':World):Prop where
 os:w'.os=w.os
 tape:w'.tape=w.tape
 output:w'.output=w.output
 size:w.heap.size≤w'.heap.size
 block:∀ k,k<w.heap.size→k≠g→w'.heap[k]?=w.heap[k]?
theorem OffG.below {g B:Nat} {w0 w w':World} (h:OffG g w w') (hB:Below B w0 w) (hg:B≤g) (hs:B≤w.heap.size):Below B w0 w' :=
 ⟨h.os.trans hB.os,h.tape.trans hB.tape,h.output.trans hB.output,Nat.le_trans hB.size h.size,fun k hk=>(h.block k (by omega) (by omega)).trans (hB.block k hk)⟩
theorem heap_sortWorld {α:Type} [Inhabited α] (enc:α→Value) (w:World) (g n:Nat) (d:Array α) (os:Array Obj) {k:Nat} (hk:k<w.heap.size):(sortWorld enc w g 0 n d os).heap[k]?=if g=k then (w.heap[k]?).map (onCells (putCells enc 0 d)) else w.heap[k]?:=by
 show ((w.heap.modify g (onCells (putCells enc 0 d))) ++ os)[k]?=_
 rw [Array.getElem?_append_left (by simpa using hk),Array.getElem?_modify]
theorem offG_sort {α:Type} [Inhabited α] (enc:α→Value) (w:World) (g n:Nat) (d:Array α) (os:Array Obj):OffG g w (sortWorld enc w g 0 n d os) :=
 ⟨rfl,rfl,rfl,by show _≤((w.heap.modify g _) ++ os).size;simp,fun k hk hn=>by rw [heap_sortWorld enc w g n d os hk,if_neg (fun h=>hn h.symm)]⟩
theorem pb_sort {α:Type} [Inhabited α] (ix:α→Nat) {w:World} {g n:Nat} {d0 d:Array α} {os:Array Obj} {L:List Int} (h:IntB w g L) (hH:Holds (encI ix) w g 0 d0) (hs:d.size=d0.size):PB (sortWorld (encI ix) w g 0 n d os) g (d.toList.map fun x=>((ix x:Nat):Int)):=by
 have hh:=holds_sortWorld (encI ix) w g 0 n d0 d os h.lt hH hs
 have hb:=heap_sortWorld (encI ix) w g n d os h.lt
 rw [if_pos rfl,h] at hb
 refine ⟨_,hb,fun j hj=>?_⟩
 have hj':j<d.size:=by simpa using hj
 have:=(hh j hj').1
 rw [Lib.cell_of_heap hb,Nat.zero_add] at this
 rw [this]
 unfold encI
 rw [List.getD_eq_getElem?_getD,List.getElem?_map,getElem!_pos d j hj']
 simp [hj']
set_option maxHeartbeats 4000000 in
theorem sortst_any {α:Type} [Inhabited α] {cf:α→α→Int} {tot:α→α→Bool} {ix:α→Nat} {g:Nat} {cb:Array Value} {blk off:Nat} {d0:Array α} {w0:World} (M:MgC cf tot ix g cb blk off d0 w0)
  (cap n:Nat) (hn:d0.size=n) (h0:∀ i,i<n→ix d0[i]! = i) :
  Calls Tryz.prog 66 #[.slice (some ⟨blk,off,none⟩) n cap,.func (.func g) #[] cb] w0 fun e w'=>e=.returned (.tuple #[])∧∃ d',SortedIn tot 0 n d'∧PermIn 0 n d0 d'∧SW (encI ix) w0 blk off d' w':=by
 have hc:=stable_any M cap n d0 w0 hn rfl (SW.start M.R.hH) h0
 clear M
 go_enter Tryz.func66,Tryz.ntmps66
 go_wp2_with fail
 refine hc.mono ?_
 rintro e w' ⟨rfl,h⟩
 go_wp2_with fail
 go_end0
 exact ⟨rfl,h⟩
def cfW (n:Int) (W:List Int) (k:Nat) (x y:Fin (k+1)):Int:=cmpI (lkR n W y.val) (lkR n W x.val)
def totW (n:Int) (W:List Int) (k:Nat) (x y:Fin (k+1)):Bool:=prec n W x.val y.val
theorem tieW (n:Int) (W:List Int) (k:Nat):Tie (ltOf (cfW n W k)) (totW n W k) Fin.val where
 S:=by
  refine ⟨fun x=>?_,fun x y z h1 h2=>?_,fun x y z h1 h2=>?_⟩
  ·unfold totW prec;simp
  ·unfold totW prec at *;simp only [decide_eq_true_eq] at *;omega
  ·unfold totW prec at *;simp only [decide_eq_false_iff_not] at *;omega
 on:=fun x y h=>by
  unfold ltOf cfW totW prec cmpI
  by_cases h1:lkR n W y.val<lkR n W x.val
  ·rw [if_pos h1];simp [h1]
  ·rw [if_neg h1]
   by_cases h2:lkR n W x.val<lkR n W y.val
   ·rw [if_pos h2];simp;omega
   ·rw [if_neg h2];simp;omega
def ids (k:Nat):Array (Fin (k+1)):=Array.ofFn fun i=>i
theorem ids_size (k:Nat):(ids k).size=k+1:=by simp [ids]
theorem ids_at (k i:Nat) (h:i<k+1):((ids k)[i]!).val=i:=by rw [getElem!_pos (ids k) i (by rw [ids_size];exact h)];simp [ids]
theorem ids_list (k:Nat):(ids k).toList.map Fin.val=List.range (k+1):=by
 refine List.ext_getElem (by simp [ids]) fun i h1 h2=>?_
 have hi:i<k+1:=by simpa using h2
 rw [List.getElem_map,List.getElem_range]
 have:=ids_at k i hi
 rw [getElem!_pos (ids k) i (by rw [ids_size];exact hi)] at this
 simpa using this
theorem sortw_any (g c q1 q2 q3 q4:Nat) (n:Int) (A:Option Addr) (cA:Nat) (W:List Int) (w:World) (hW0:0<W.length) (hWk:W.length≤60) (hO:IntB w g (risL W.length))
  (HR:∀ w',OffG g w w'→RestA w' q1 q2 q3 n A cA W∧w'.cell? ⟨q4,0,none⟩=some (.func (.func 65) #[] #[.pointer (some ⟨q1,0,none⟩),.pointer (some ⟨q2,0,none⟩),.pointer (some ⟨q3,0,none⟩)]))
  (hs:0<W.sum) (hn:0≤n∧n≤1000000) (hW:∀ x∈W,0≤x∧x≤1000000) :
  Calls Tryz.prog 66 #[.slice (some ⟨g,0,none⟩) W.length c,.func (.func 67) #[] #[.pointer (some ⟨q4,0,none⟩)]] w fun e w'=>e=.returned (.tuple #[]) ∧
   (∃ O:List Nat,O.Perm (List.range W.length)∧(∀ a b,a<b→b<W.length→prec n W (O.getD a 0) (O.getD b 0)=true)∧PB w' g (O.map fun x:Nat=>(x:Int)))∧OffG g w w':=by
 obtain ⟨k,hk⟩:∃ k,W.length=k+1:=⟨W.length-1,by omega⟩
 have hH:Holds (encI (Fin.val:Fin (k+1)→Nat)) w g 0 (ids k):=fun j hj=>by
  rw [ids_size] at hj
  refine ⟨?_,hO.frozen _⟩
  rw [Nat.zero_add,hO.cell (j:=j) (by rw [risL_len];omega)]
  unfold encI
  rw [ids_at k j hj]
  congr 2
  unfold risL
  rw [List.getD_eq_getElem?_getD,List.getElem?_map,List.getElem?_range (by omega)];rfl
 have hread:CmpReads Tryz.prog 67 #[.pointer (some ⟨q4,0,none⟩)] (encI Fin.val) (cfW n W k) g 0 (ids k).size w:=fun m os dk _ x y=>by
  obtain ⟨h1,h2⟩:=HR _ (offG_sort (encI Fin.val) w g m dk os)
  exact less_any q1 q2 q3 q4 n A cA W x.val y.val _ h1 h2 (by have:=x.isLt;omega) (by have:=y.isLt;omega) hs hn hW
 have M:MgC (cfW n W k) (totW n W k) Fin.val 67 #[.pointer (some ⟨q4,0,none⟩)] g 0 (ids k) w :=
  ⟨fun args w=>by simp [callFunc,Tryz.func67];rfl,hread.lays,⟨fun _=>rfl,hH,hO.lt⟩,tieW n W k,by rw [ids_size];omega⟩
 rw [hk]
 refine (sortst_any M c (k+1) (ids_size k) (ids_at k)).mono ?_
 rintro e w' ⟨rfl,d,hS,hP,m,os,rfl⟩
 obtain ⟨o1,o2⟩:=order_of (n:=n) (W:=W) hk (tot:=totW n W k) (fun _ _=>rfl) (ids_list k) hS hP
 refine ⟨rfl,⟨_,by have:=o1;rw [hk] at this;exact this,fun a b h1 h2=>o2 a b h1 (by omega),?_⟩,offG_sort _ w g m d os⟩
 have:=pb_sort Fin.val (n:=m) (os:=os) hO hH hP.1
 rwa [List.map_map]
end Go.Proofs.YtfemjinbfebejaaGreatDoor
namespace Go.Proofs.YtfemjinbfebejaaGreatDoor
open Go Go.ChangeShapes Go.WideShapes Go.ChangeAt Go.RowKit
set_option maxRecDepth 20000
set_option maxHeartbeats 4000000 in
theorem grow_any (n:Nat) (w:World) (h1:1≤n) (h8:n≤8):Calls Tryz.prog 62 #[.slice none 0 0,.int .i64 n] w fun e w'=>(∃ v,e=.returned v∧w'.ownsRow w.heap.size 3 1 v 0 [])∧Below w.heap.size w w':=by
 obtain ⟨i0,hi0,hz0,hz1,hz2⟩:=info_parts Tryz.infoIntP
 have hn0 : ¬ ((n:Int)<0):=by omega
 have hn1:(n:Int) > 0:=by omega
 have hn8:(n:Int)≤8:=by omega
 have hold:(Builtin.firstCells i0.size 0 (.slice none 0 0)).run Tryz.prog w.drew=.ok (([]:List Value).toArray) w.drew:=by rw [hz1];exact run_firstCells_none w.drew 1 0 0 0
 have hrz:∀ ty,(Builtin.append_ #[31,3] ty #[.slice none 0 0,.int .i64 (n:Int)]).run Tryz.prog w=_:=fun ty=>Lib.run_append_grow_zeros w 31 3 ty 3 i0 (.int .i64 0) .i64 .i64 Tryz.underlying31 Tryz.underlying3 hi0 hz0 none 0 0 [] hold n (by omega) (by omega) (by omega) (by omega) (by rw [hz2];omega) (by rw [hz2,Nat.zero_add];exact growslice_fits (by omega) (by omega))
 rw [Nat.zero_add] at hrz
 have hGn:n≤grownCap w n 0 3:=grownCap_ge w _ _ _
 have hGm:=grownCap_le_maxLen w n 0 3 (by unfold maxLen;omega)
 obtain ⟨G,hG⟩:∃ G,G=grownCap w n 0 3:=⟨_,rfl⟩
 rw [←hG] at hrz hGn hGm
 have hG63:G≤9223372036854775807:=by unfold maxLen at hGm;omega
 obtain ⟨cs,hcs⟩:∃ cs,cs=([]:List Value).toArray ++ Builtin.zeroCells (Value.int .i64 0).cells n ++ Builtin.zeroCells (Value.int .i64 0).cells (G-n):=⟨_,rfl⟩
 have hsz:cs.size=G:=by rw [hcs];simp [Builtin.zeroCells,Value.cells];omega
 rw [←hcs] at hrz
 have HO:Hid ((w.drew.alloc (.cells cs 3)).ownsRow w.heap.size 3 1 (.slice (some ⟨w.heap.size,0,none⟩) 0 G) 0 []):=⟨rfl,Or.inr ⟨w.heap.size,G,cs,rfl,Nat.le_refl _,heap_alloc_new w.drew _,Nat.zero_le _,hGm,by rw [hsz];omega,by simp⟩⟩
 have HB:Hid (Below w.heap.size w (w.drew.alloc (.cells cs 3))):=by show Below _ _ _;go_grown
 clear hold hG hcs hsz hGm
 go_enter Tryz.func62,Tryz.ntmps62
 go_wp2_with (at_builtin;refine Lib.wpList_append_run _ rfl _ _ _ _ rfl _ _ rfl rfl _ _ (hrz _) ?_)
 all_goals go_ret
 all_goals exact ⟨⟨_,rfl,HO.out⟩,HB.out⟩
def HeadV (w:World) (A:Option Addr) (c:Nat) (L:List Int):Prop:=(A=none∧c=0∧L=[])∨(L≠[]∧PlTy w A c L)
theorem HeadV.pl {w:World} {A:Option Addr} {c:Nat} {L:List Int} (h:HeadV w A c L):PlAt w A c L:=by
 rcases h with ⟨rfl,rfl,rfl⟩ | ⟨-,h⟩
 ·exact PlAt.nil _ _ _
 ·exact h.pl
theorem HeadV.later {w w':World} {A:Option Addr} {c:Nat} {L:List Int} (h:HeadV w A c L) (hB:Below w.heap.size w w'):HeadV w' A c L:=by
 rcases h with h | ⟨h1,h⟩
 ·exact Or.inl h
 ·exact Or.inr ⟨h1,h.later hB⟩
theorem HeadV.cells {w:World} {b o c:Nat} {L:List Int} (h:HeadV w (some ⟨b,o,none⟩) c L):∀ j u,(L.map (Value.int .i64))[j]?=some u→w.cell? ((⟨b,o,none⟩:Addr).add j)=some u:=by
 intro j u hj
 obtain ⟨-,h0 | ⟨b',o',h0,-,hcell⟩⟩:=h.pl
 ·subst h0;simp at hj
 ·cases h0
  have hlt:j<L.length:=by have:=(List.getElem?_eq_some_iff.1 hj).1;simpa using this
  rw [plain_add,hcell j hlt]
  simp only [List.getElem?_map,List.getElem?_eq_getElem hlt,Option.map_some,Option.some.injEq] at hj
  rw [←hj,List.getD_eq_getElem?_getD,List.getElem?_eq_getElem hlt]
  rfl
theorem one_at {w:World} {q:Nat} {x:Value} (h:w.cell? ⟨q,0,none⟩=some x):∀ j u,[x][j]?=some u→w.cell? ((⟨q,0,none⟩:Addr).add j)=some u:=by
 intro j u hj
 cases j with
 | zero =>
  simp at hj
  rw [plain_add,←hj]
  exact h
 | succ j=>simp at hj
set_option maxHeartbeats 8000000 in
theorem concat_any (b bk:Nat) (Ah:Option Addr) (ch:Nat) (h:List Int) (k:Int) (w:World) (h3:h.length≤3) (hH:HeadV w Ah ch h) (c0:w.cell? ⟨b,0,none⟩=some (.slice Ah h.length ch)) (c1:w.cell? ⟨b,1,none⟩=some (.slice (some ⟨bk,0,none⟩) 1 1)) (ck:w.cell? ⟨bk,0,none⟩=some (.int .i64 k)) :
  Calls Tryz.prog 38 #[.slice (some ⟨b,0,none⟩) 2 2] w fun e w'=>(∃ A' c',e=.returned (.slice A' (h ++ [k]).length c')∧PlTy w' A' c' (h ++ [k]))∧Below w.heap.size w w':=by
 obtain ⟨i0,hi0,hz0,hz1,hz2⟩:=info_parts Tryz.infoIntP
 have HH:Hid (HeadV w Ah ch h):=hH
 have zb:=World.block_lt_of_cell? _ _ c0
 have zk:=World.block_lt_of_cell? _ _ ck
 have HCells:Hid (w.cell? ⟨b,0,none⟩=some (.slice Ah h.length ch)∧w.cell? ⟨b,1,none⟩=some (.slice (some ⟨bk,0,none⟩) 1 1)∧w.cell? ⟨bk,0,none⟩=some (.int .i64 k)):=⟨c0,c1,ck⟩
 obtain ⟨nh,hnh⟩:∃ nh,h.length=nh:=⟨_,rfl⟩
 have HNH:Hid (h.length=nh):=hnh
 have hgr:=grow_any (nh+1) w (by omega) (by omega)
 have hnh3:(nh:Int)≤3:=by omega
 have hcast:((nh+1:Nat):Int)=(nh:Int)+1:=by omega
 rw [hcast] at hgr
 rw [hnh] at c0
 have HF:Hid (∀ (w':World) (v:Value),w'.ownsRow w.heap.size 3 1 v (nh+1) ((h ++ [k]).map (Value.int .i64))→∃ A' c',v=.slice A' (h ++ [k]).length c'∧PlTy w' A' c' (h ++ [k])):=fun w' v hv=>plty_own (by rw [List.length_append,HNH.out];exact hv)
 clear hH hnh hcast
 go_enter Tryz.func38,Tryz.ntmps38
 go_wp2_with fail
 refine wp_loop_rounds 3 ?_
 rw [rounds_succ]
 go_wp2_with fail
 rw [rounds_succ]
 go_wp2_with fail
 rw [rounds_succ]
 go_wp2_with fail
 refine hgr.mono ?_
 rintro e w1 ⟨⟨v,rfl,hown⟩,hb1⟩
 have HB1:Hid (Below w.heap.size w w1):=hb1
 have HO1:Hid (w1.ownsRow w.heap.size 3 1 v 0 []):=hown
 have x0:=(hb1.cell (p:=⟨b,0,none⟩) zb).trans HCells.out.1
 have x1:=(hb1.cell (p:=⟨b,1,none⟩) zb).trans HCells.out.2.1
 rw [HNH.out] at x0
 clear hb1 hown hgr c0 c1 ck
 go_wp2_with fail
 refine wp_loop_rounds 3 ?_
 rw [rounds_succ]
 cases Ah with
 | none =>
  have h0:h=[]∧ch=0:=by
   rcases HH.out with ⟨-,h2,h1⟩ | ⟨h1,h2⟩
   ·exact ⟨h1,h2⟩
   ·obtain ⟨-,h4 | ⟨b',o',cs,fr,h4,-⟩⟩:=h2
    ·exact absurd h4 h1
    ·cases h4
  obtain ⟨rfl,rfl⟩:=h0
  have hn0:nh=0:=by have:=HNH.out;simp at this;exact this.symm
  subst hn0
  go_wp2_with (at_builtin;refine wpList_append_own_none rfl _ _ 31 rfl w.heap.size 3 i0 1 Tryz.underlying31 hi0 _ 0 _ rfl HO1.out rfl ?_)
  rw [rounds_succ]
  have ck1:=(HB1.out.cell (p:=⟨bk,0,none⟩) zk).trans HCells.out.2.2
  have hsz:=HB1.out.size
  clear x0
  go_wp2_with (at_builtin;refine wpList_append_own _ rfl _ _ 31 rfl w.heap.size 3 i0 (.int .i64 0) 1 8 Tryz.underlying31 hi0 hz0 hz1 hz2 rfl (by decide) _ _ _ rfl HO1.out ⟨bk,0,none⟩ 1 1 [.int .i64 k] rfl rfl ?qc2 one_one ?qc4 ?qc5 ?qc6 ?_)
  case qc2=>exact one_at ck1
  case qc4=>simp only [maxLen];omega
  case qc5=>omega
  case qc6=>exact hsz
  intro v' w2 hown hgrow hnil
  obtain ⟨A',c',rfl,hT⟩:=HF.out _ _ hown
  have HT:Hid (PlTy w2 A' c' ([] ++ [k])):=hT
  have HB:Hid (Below w.heap.size w w2):=HB1.out.grown hgrow hsz (fun j hj=>(HO1.out.lt j hj).1)
  clear hown hgrow hnil hT
  go_wp2_with fail
  rw [rounds_succ]
  go_wp2_with fail
  go_ret
  exact ⟨⟨A',c',rfl,HT.out⟩,HB.out⟩
 | some a =>
  obtain ⟨b',o',rfl⟩:∃ b' o',a=⟨b',o',none⟩:=by
   rcases HH.out with ⟨h1,-⟩ | ⟨h1,-,h4 | ⟨b',o',cs,fr,h4,-⟩⟩
   ·cases h1
   ·exact absurd h4 h1
   ·cases h4;exact ⟨b',o',rfl⟩
  have hsz:=HB1.out.size
  have HHc:=(HH.out.later HB1.out).cells
  go_wp2_with (at_builtin;refine wpList_append_own _ rfl _ _ 31 rfl w.heap.size 3 i0 (.int .i64 0) 1 8 Tryz.underlying31 hi0 hz0 hz1 hz2 rfl (by decide) _ _ _ rfl HO1.out ⟨b',o',none⟩ nh ch (h.map (Value.int .i64)) rfl ?qc1 ?qc2 ?qc3 ?qc4 ?qc5 ?qc6 ?_)
  case qc1=>simp [HNH.out]
  case qc2=>exact HHc
  case qc3=>intro u hu;simp at hu;obtain ⟨x,-,rfl⟩:=hu;rfl
  case qc4=>simp only [maxLen];omega
  case qc5=>omega
  case qc6=>exact hsz
  intro v2 w2 hown hgrow hnil
  have HO2:Hid (w2.ownsRow w.heap.size 3 1 v2 nh (h.map (Value.int .i64))):=by
   show World.ownsRow ..
   simpa using hown
  have hne:∀ q,q<w.heap.size→some q≠v.ownBlock:=fun q hq e=>by have:=(HO1.out.lt q e.symm).1;omega
  have y1:=(World.cell?_of_block (a:=⟨b,1,none⟩) (hgrow.block b (Nat.lt_of_lt_of_le zb hsz) (hne b zb))).trans x1
  have yk:=(World.cell?_of_block (a:=⟨bk,0,none⟩) (hgrow.block bk (Nat.lt_of_lt_of_le zk hsz) (hne bk zk))).trans ((HB1.out.cell (p:=⟨bk,0,none⟩) zk).trans HCells.out.2.2)
  have HB2:Hid (Below w.heap.size w w2):=HB1.out.grown hgrow hsz (fun j hj=>(HO1.out.lt j hj).1)
  have hsz2:=HB2.out.size
  clear hown hgrow hnil hne HHc x0 x1
  go_wp2_with fail
  rw [rounds_succ]
  go_wp2_with (at_builtin;refine wpList_append_own _ rfl _ _ 31 rfl w.heap.size 3 i0 (.int .i64 0) 1 8 Tryz.underlying31 hi0 hz0 hz1 hz2 rfl (by decide) _ _ _ rfl HO2.out ⟨bk,0,none⟩ 1 1 [.int .i64 k] rfl rfl ?qd2 one_one ?qd4 ?qd5 ?qd6 ?_)
  case qd2=>exact one_at yk
  case qd4=>simp only [maxLen];omega
  case qd5=>omega
  case qd6=>exact hsz2
  intro v' w3 hown hgrow hnil
  obtain ⟨A',c',rfl,hT⟩:=HF.out w3 v' (by rw [List.map_append];simpa using hown)
  have HT:Hid (PlTy w3 A' c' (h ++ [k])):=hT
  have HB:Hid (Below w.heap.size w w3):=HB2.out.grown hgrow hsz2 (fun j hj=>(HO2.out.lt j hj).1)
  clear hown hgrow hnil hT
  go_wp2_with fail
  rw [rounds_succ]
  go_wp2_with fail
  go_ret
  exact ⟨⟨A',c',rfl,HT.out⟩,HB.out⟩
end Go.Proofs.YtfemjinbfebejaaGreatDoor
