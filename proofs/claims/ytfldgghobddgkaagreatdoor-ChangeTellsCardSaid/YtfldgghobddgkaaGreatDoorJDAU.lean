/-
  A formula that is right as a tree, on plain data: what Print writes is the text of its tree.
-/
import Derived.Lib.OwnBridge
import Derived.Shelf.Slices.In.SortNone
import Derived.Sort.Walk0
import Derived.Maps.AppendAt
import Derived.Test.YtfldgghobddgkaaGreatDoorJDAS
import Derived.Test.YtfldgghobddgkaaGreatDoorJDAT
namespace Go.Proofs.YtfldgghobddgkaaGreatDoor
def trF (l:List Nd):Nat→Nat→Tre
 | 0,_=>.num 0
 | f+1,i=>if (l.getD i noN).op=1 then .num (l.getD i noN).n else if (l.getD i noN).op=2 then .ref (l.getD i noN).name else .bin (l.getD i noN).op (trF l f (l.getD i noN).left.toNat) (trF l f (l.getD i noN).right.toNat)
def treeOf (l:List Nd) (i:Nat):Tre:=trF l (i+1) i
def RightL (l:List Nd):Prop := ∀ j,j<l.length→ndErr (l.getD j noN) j=0
theorem op_range {x:Nd} {i:Nat} (h:ndErr x i=0):1≤x.op∧x.op≤6:=by
 unfold ndErr at h
 split at h
 ·cases h
 ·omega
theorem trF_fuel {l:List Nd} (hl:RightL l):∀ (f g i:Nat),i<l.length→i<f→i<g→trF l f i=trF l g i
 | 0,_,_,_,h,_=>by omega
 | _+1,0,_,_,_,h=>by omega
 | f+1,g+1,i,hi,hf,hg=>by
  rw [trF,trF]
  by_cases h1:(l.getD i noN).op=1
  ·rw [if_pos h1,if_pos h1]
  rw [if_neg h1,if_neg h1]
  by_cases h2:(l.getD i noN).op=2
  ·rw [if_pos h2,if_pos h2]
  rw [if_neg h2,if_neg h2]
  have ho:=op_range (hl i hi)
  obtain ⟨a1,a2,a3,a4⟩:=nd_sides (hl i hi) (by omega)
  rw [trF_fuel hl f g _ (by omega) (by omega) (by omega),trF_fuel hl f g (l.getD i noN).right.toNat (by omega) (by omega) (by omega)]
section
variable {l:List Nd} {i:Nat}
theorem tree_num (h:(l.getD i noN).op=1):treeOf l i=.num (l.getD i noN).n:=by unfold treeOf;rw [trF,if_pos h]
theorem tree_ref (h:(l.getD i noN).op=2):treeOf l i=.ref (l.getD i noN).name:=by unfold treeOf;rw [trF,if_neg (by omega),if_pos h]
theorem tree_bin (hl:RightL l) (hi:i<l.length) (h:2<(l.getD i noN).op):treeOf l i=.bin (l.getD i noN).op (treeOf l (l.getD i noN).left.toNat) (treeOf l (l.getD i noN).right.toNat):=by
 obtain ⟨a1,a2,a3,a4⟩:=nd_sides (hl i hi) h
 unfold treeOf
 rw [trF,if_neg (by omega),if_neg (by omega),trF_fuel hl i _ _ (by omega) (by omega) (Nat.lt_succ_self _),trF_fuel hl i _ (l.getD i noN).right.toNat (by omega) (by omega) (Nat.lt_succ_self _)]
theorem bind_tree (hl:RightL l) (hi:i<l.length):bindT (treeOf l i)=bindN (l.getD i noN).op:=by
 have ho:=op_range (hl i hi)
 by_cases h1:(l.getD i noN).op=1
 ·rw [tree_num h1,h1];rfl
 by_cases h2:(l.getD i noN).op=2
 ·rw [tree_ref h2,h2];rfl
 ·rw [tree_bin hl hi (by omega)];rfl
end
theorem byte_ext3 {l:List UInt8} {b:ByteArray} (h:l=b.data.toList):(⟨l.toArray⟩:ByteArray)=b:=by
 apply ByteArray.ext
 apply Array.toList_inj.1
 rw [h]
theorem tre_num (n:Int):treT (.num n)=numB n:=by
 apply byte_ext3
 show bytesOf [numB n]=_
 rw [bytes_one]
theorem tre_ref (s:ByteArray):treT (.ref s)=s:=by
 apply byte_ext3
 show bytesOf [s]=_
 rw [bytes_one]
theorem tre_bin (o:Int) (a b:Tre):treT (.bin o a b)=brk (treT a) (decide (bindT a<bindN o)) ++ sgnT o ++ brk (treT b) (decide (bindT b≤bindN o)):=by
 have hbr:∀ (t:Tre) (c:Bool),(brk (treT t) c).data.toList=bytesOf (brkL (tokT t) c):=by
  intro t c
  cases c
  ·simp [brk,brkL,treT,txtL]
  ·show ((⟨#[40]⟩ ++ treT t ++ ⟨#[41]⟩:ByteArray)).data.toList=bytesOf ([ByteArray.mk #[40]] ++ tokT t ++ [ByteArray.mk #[41]])
   rw [bytes_app,bytes_app,bytes_one,bytes_one]
   simp [treT,txtL]
 apply byte_ext3
 rw [ByteArray.data_append,ByteArray.data_append,Array.toList_append,Array.toList_append,hbr,hbr]
 show bytesOf (brkL (tokT a) (decide (bindT a<bindN o)) ++ [sgnT o] ++ brkL (tokT b) (decide (bindT b≤bindN o)))=_
 rw [bytes_app,bytes_app,bytes_one]
theorem texts_tree {l:List Nd} (hl:RightL l):∀ k,k≤l.length→∀ j,j<k→(textsTo l k).getD j noT=treT (treeOf l j)
 | 0,_,j,h=>by omega
 | k+1,hk,j,hj=>by
  have ih:=texts_tree hl k (by omega)
  rw [textsTo,List.getD_eq_getElem?_getD,List.getElem?_set]
  by_cases e:k=j
  ·subst e
   rw [if_pos rfl,if_pos (by rw [texts_len];omega)]
   simp only [Option.getD_some]
   have ho:=op_range (hl k (by omega))
   by_cases h1:(l.getD k noN).op=1
   ·rw [txt_num h1,tree_num h1,tre_num];rfl
   by_cases h2:(l.getD k noN).op=2
   ·rw [txt_ref h2,tree_ref h2,tre_ref]
   ·obtain ⟨a1,a2,a3,a4⟩:=nd_sides (hl k (by omega)) (by omega)
    rw [txt_op (a:=(l.getD k noN).left.toNat) (c:=(l.getD k noN).right.toNat) (by omega) (by omega) (by omega),tree_bin hl (by omega) (by omega),tre_bin,ih _ (by omega),ih _ (by omega),bind_tree hl (by omega),bind_tree hl (by omega)]
  ·rw [if_neg e,←List.getD_eq_getElem?_getD]
   exact ih j (by omega)
theorem print_tree {l:List Nd} (h:formErr l=0):printT l=treT (treeOf l (l.length-1)):=by
 obtain ⟨h1,h2,h3,-⟩:=form_right h
 unfold printT
 rw [if_pos h]
 exact texts_tree h3 l.length (Nat.le_refl _) _ (by omega)
end Go.Proofs.YtfldgghobddgkaaGreatDoor
namespace Go.Proofs.YtfldgghobddgkaaGreatDoor
open Go.ChangeShapes Go.WideShapes Go.ChangeAt Go.RowKit
open Go.Sort (putRow Holds grow holds_putRow)
set_option maxRecDepth 20000
def nmsTo (l:List Nd) (k:Nat):List (List UInt8):=((l.take k).filter fun x=>decide (x.op=2)).map fun x=>x.name.data.toList
def refsP (l:List Nd):List (List UInt8):=if formErr l=0 then Lib.compact ((nmsTo l l.length).mergeSort fun x y=>decide (x≤y)) else []
theorem nms_hit {l:List Nd} {k:Nat} {x:Nd} (hk:k<l.length) (hx:l.getD k noN=x) (h:x.op=2):nmsTo l (k+1)=nmsTo l k ++ [x.name.data.toList]:=by
 unfold nmsTo
 rw [take_snoc l hk,hx,List.filter_append,List.map_append]
 simp [h]
theorem nms_miss {l:List Nd} {k:Nat} {x:Nd} (hk:k<l.length) (hx:l.getD k noN=x) (h:x.op≠2):nmsTo l (k+1)=nmsTo l k:=by
 unfold nmsTo
 rw [take_snoc l hk,hx,List.filter_append,List.map_append]
 simp [h]
theorem nms_len (l:List Nd) (k:Nat):(nmsTo l k).length≤k:=by
 unfold nmsTo
 rw [List.length_map]
 exact Nat.le_trans (List.length_filter_le _ _) (by rw [List.length_take];omega)
def StrsV (w:World) (A:Option Addr) (c:Nat) (L:List (List UInt8)):Prop:=L.length≤c∧c≤9223372036854775807∧(L=[]∨∃ b o,A=some ⟨b,o,none⟩∧b<w.heap.size∧∀ j,j<L.length→w.cell? ⟨b,o+j,none⟩=some (.string ⟨(L.getD j []).toArray⟩))
theorem StrsV.nil (w:World) (A:Option Addr) (c:Nat) (h:c≤9223372036854775807):StrsV w A c []:=⟨Nat.zero_le _,h,Or.inl rfl⟩
theorem StrsV.later {w w':World} {A:Option Addr} {c:Nat} {L:List (List UInt8)} (h:StrsV w A c L) (hB:Below w.heap.size w w'):StrsV w' A c L:=by
 obtain ⟨h1,h2,h3 | ⟨b,o,h3,h4,h5⟩⟩:=h
 ·exact ⟨h1,h2,Or.inl h3⟩
 ·exact ⟨h1,h2,Or.inr ⟨b,o,h3,Nat.lt_of_lt_of_le h4 hB.size,fun j hj=>(hB.cell (p:=⟨b,o+j,none⟩) h4).trans (h5 j hj)⟩⟩
theorem put_off {w:World} {g k:Nat} {d:Array (List UInt8)} (h:k≠g):(putRow encStr w g 0 d).heap[k]?=w.heap[k]?:=by
 unfold putRow Sort.mapBlock
 simp only [Array.getElem?_modify]
 rw [if_neg (fun e=>h e.symm)]
theorem sorted_below {w0 w:World} {g n:Nat} {d:Array (List UInt8)} {os:Array Obj} (h:Below w0.heap.size w0 w) (hg:w0.heap.size≤g):Below w0.heap.size w0 (grow (putRow encStr (Sort.ahead w n) g 0 d) os):=by
 refine ⟨h.os,h.tape,h.output,by have:=h.size;simp;omega,fun k hk=>?_⟩
 have hs:=h.size
 rw [Sort.heap_grow_old _ _ (by simp;omega),put_off (by omega)]
 exact h.block k hk
theorem packed_below {w0 w:World} {g n:Nat} {d:Array (List UInt8)} (h:Below w0.heap.size w0 w) (hg:w0.heap.size≤g):Below w0.heap.size w0 (putRow encStr (Sort.ahead w n) g 0 d):=by
 refine ⟨h.os,h.tape,h.output,by have:=h.size;simp;omega,fun k hk=>?_⟩
 rw [put_off (by omega)]
 exact h.block k hk
theorem compact_len (zs:List (List UInt8)):(Lib.compact zs).length≤zs.length:=by
 unfold Lib.compact Lib.compactUpTo
 rw [List.length_map]
 exact Nat.le_trans (List.length_filter_le _ _) (by simp)
theorem packed_strs {w:World} {g n cap:Nat} {zs:List (List UInt8)} (hH:Holds encStr w g 0 zs.toArray) (hc:zs.length≤cap) (hm:cap≤maxLen) (hg:g<w.heap.size) :
  StrsV (putRow encStr (Sort.ahead w n) g 0 (Lib.compact zs ++ List.replicate (zs.length-(Lib.compact zs).length) []).toArray) (some ⟨g,0,none⟩) cap (Lib.compact zs):=by
 have hl:=compact_len zs
 refine ⟨by omega,by unfold maxLen at hm;omega,Or.inr ⟨g,0,rfl,by simpa using hg,fun j hj=>?_⟩⟩
 have hs:(Lib.compact zs ++ List.replicate (zs.length-(Lib.compact zs).length) []).toArray.size=zs.toArray.size:=by simp;omega
 have h1:=(holds_putRow encStr (Sort.ahead w n) g 0 zs.toArray _ hH hs j (by rw [hs];simp;omega)).1
 rw [h1]
 have e:(Lib.compact zs ++ List.replicate (zs.length-(Lib.compact zs).length) ([]:List UInt8)).toArray[j]! = (Lib.compact zs).getD j []:=by
  rw [getElem!_pos _ j (by rw [hs];simp;omega)]
  simp [List.getD,List.getElem?_eq_getElem hj,List.getElem_append_left hj]
 rw [e]
end Go.Proofs.YtfldgghobddgkaaGreatDoor
namespace Go.Proofs.YtfldgghobddgkaaGreatDoor
open Go.ChangeShapes Go.WideShapes Go.ChangeAt Go.RowKit
set_option maxRecDepth 20000
set_option maxHeartbeats 1000000 in
theorem osize_any (b o n cap:Nat) (D:Nat→Dm) (A:Nat→Option Addr) (C:Nat→Nat) (w:World) (hn:n≤4) (hd:∀ j,j<n→(D j).n≤12) (hM:DimsAt w b o n D A C):Calls Tryz.prog 81 #[.agg #[.slice (some ⟨b,o,none⟩) n cap]] w fun e w'=>e=.returned (.int .i64 (prodN D n))∧Below w.heap.size w w':=by
 have HB:Hid (DimsAt w b o n D A C):=hM
 have HD:Hid (∀ j,j<n→(D j).n≤12):=hd
 clear hM hd
 have hS:=ownOut_size w (some ⟨b,o,none⟩) n cap 24
 have hB0:=ownOut_below w (some ⟨b,o,none⟩) n cap 24
 have hA2:=ownOut_at w (some ⟨b,o,none⟩) n cap 24
 obtain ⟨W,hW⟩:∃ W,W=ownOut w (some ⟨b,o,none⟩) n cap 24:=⟨_,rfl⟩
 rw [←hW] at hB0 hS hA2
 have HW:Hid (W=ownOut w (some ⟨b,o,none⟩) n cap 24):=hW
 have HA:Hid (W.cell? ⟨w.heap.size,0,none⟩=some (.slice (some ⟨b,o,none⟩) n cap)):=hA2
 have HB0:Hid (Below w.heap.size w W):=hB0
 have hs8:(n:Int)≤4:=by omega
 clear hW hA2 hB0 hS
 go_enter Tryz.func81,Tryz.ntmps81
 go_wp2_with fail
 go_loopg [3,4] n (fun g s3 s4 wr => ∃ (k:Nat),k≤n∧g=n-k∧s4=.int .i64 k∧s3=.int .i64 (prodN D k)∧wr=W)
 case atStart=>exact ⟨0,Nat.zero_le _,rfl,rfl,rfl,by rw [HW.out];rfl⟩
 case round =>
  obtain ⟨k,hk,rfl,rfl,rfl,rfl⟩:=hrel
  have c0:=HA.out
  by_cases hlt:k<n
  ·obtain ⟨h0,h1,h2,-⟩:=(HB.out.later HB0.out).2 k hlt
   have hki:(k:Int)<(n:Int):=by omega
   have hp1:prodN D (k+1)≤20736:=prod_small (fun j hj=>HD.out j (by omega)) (by omega)
   have hp2:(prodN D (k+1):Int)=(prodN D k:Int)*((D k).n:Int):=by rw [prodN];exact Int.natCast_mul _ _
   have hp3:0≤(prodN D k:Int)*((D k).n:Int):=by omega
   have hp4:(prodN D k:Int)*((D k).n:Int)≤20736:=by omega
   have HP:Hid ((prodN D (k+1):Int)=(prodN D k:Int)*((D k).n:Int)):=hp2
   clear hp1 hp2
   go_wp2_with fail
   go_roundg (n-(k+1))
   case measure=>omega
   case rel=>exact ⟨k+1,by omega,rfl,by go_num,by rw [HP.out],rfl⟩
  ·have hke:k=n:=by omega
   subst hke
   go_wp2_with fail
   go_ret
   exact ⟨rfl,HB0.out⟩
theorem clashD_hit {D:Nat→Dm} {k j:Nat} (hj:j<k) (h:same (D j).name (D k).name=true):clashD D k=true:=by
 unfold clashD
 exact decide_eq_true (findFrom_nonneg (q:=fun j=>same (D j).name (D k).name) hj h)
theorem clashD_none {D:Nat→Dm} {k:Nat} (h:findFrom (fun j=>same (D j).name (D k).name) k 0 = -1):clashD D k=false:=by
 unfold clashD
 rw [h]
 rfl
set_option maxHeartbeats 8000000 in
theorem routline_any (A0:Option Addr) (cap n:Nat) (D:Nat→Dm) (A:Nat→Option Addr) (C:Nat→Nat) (w:World) (hM:DimsV w A0 cap n D A C):Calls Tryz.prog 55 #[.agg #[.slice A0 n cap]] w fun e w'=>e=.returned (.tuple #[.int .i64 (allErr D n).1,.int .i64 (allErr D n).2.1,.int .i64 (allErr D n).2.2])∧Below w.heap.size w w':=by
 by_cases hn4:4<n
 ·have hn':4<(n:Int):=by omega
  have HR:Hid (allErr D n=(-1,-1,4)):=al0 hn4
  clear hn4 hM
  go_enter Tryz.func55,Tryz.ntmps55
  go_wp2_with fail
  refine bodyPost_ret (v:=.tuple #[.int .i64 (-1),.int .i64 (-1),.int .i64 4]) (by simp [results,Tryz.results55,go_sem]) rfl ⟨by rw [HR.out],?_⟩
  go_grown
 have hn':(n:Int)≤4:=by omega
 by_cases hn0:n=0
 ·have HR:Hid (allErr D n=(-1,-1,5)):=al1 hn0
  have hz:((n:Int) == 0)=true:=by simp [hn0]
  clear hn0 hM hn4
  go_enter Tryz.func55,Tryz.ntmps55
  go_wp2_with fail
  refine bodyPost_ret (v:=.tuple #[.int .i64 (-1),.int .i64 (-1),.int .i64 5]) (by simp [results,Tryz.results55,go_sem]) rfl ⟨by rw [HR.out],?_⟩
  go_grown
 have hz:((n:Int) == 0)=false:=by simp;omega
 obtain ⟨hcap,h0 | ⟨b,o,rfl,hMs⟩⟩:=hM
 ·omega
 have hcap':(n:Int)≤(cap:Int):=by omega
 have hB0:=ownOut_below w (some ⟨b,o,none⟩) n cap 24
 have hS:=ownOut_size w (some ⟨b,o,none⟩) n cap 24
 have hA:=ownOut_at w (some ⟨b,o,none⟩) n cap 24
 obtain ⟨W,hW⟩:∃ W,W=ownOut w (some ⟨b,o,none⟩) n cap 24:=⟨_,rfl⟩
 rw [←hW] at hB0 hS hA
 have HMs:Hid (DimsAt W b o n D A C):=hMs.later hB0
 have hsz:w.heap.size<W.heap.size:=by omega
 clear hMs
 have HW:Hid (W=ownOut w (some ⟨b,o,none⟩) n cap 24):=hW
 have HA:Hid (W.cell? ⟨w.heap.size,0,none⟩=some (.slice (some ⟨b,o,none⟩) n cap)):=hA
 have HB0:Hid (Below w.heap.size w W):=hB0
 clear hW hA hB0 hS
 go_enter Tryz.func55,Tryz.ntmps55
 go_wp2_with fail
 go_loopg [5] n (fun g s5 wr => ∃ (k:Nat),k≤n∧g=n-k∧s5=.int .i64 k∧scanD D (n-k) k=scanD D n 0∧Below W.heap.size W wr)
 case atStart=>exact ⟨0,Nat.zero_le _,rfl,rfl,rfl,by rw [HW.out];exact Below.refl _ _⟩
 case round =>
  obtain ⟨k,hk,rfl,rfl,hsc,hBw⟩:=hrel
  obtain ⟨wo,rfl⟩:∃ wo:World,wo=wr:=⟨_,rfl⟩
  have HBr:Hid (Below W.heap.size W wo):=hBw
  have HF:Hid (scanD D (n-k) k=scanD D n 0):=hsc
  have c0:wo.cell? ⟨w.heap.size,0,none⟩=some (.slice (some ⟨b,o,none⟩) n cap):=(hBw.cell (p:=⟨w.heap.size,0,none⟩) hsz).trans HA.out
  have hMr:=HMs.out.later hBw
  have hszr:w.heap.size<wo.heap.size:=Nat.lt_of_lt_of_le hsz hBw.size
  clear hsc hBw
  by_cases hlt:k<n
  ·obtain ⟨h0,h1,h2,h3⟩:=hMr.2 k hlt
   have hki:(k:Int)<(n:Int):=by omega
   have hsk:n-k=(n-(k+1))+1:=by omega
   have hck:=rdim_any (D k) (A k) (C k) wo h3
   unfold dimV at hck
   have HMr:Hid (DimsAt wo b o n D A C):=hMr
   clear h3 hMr
   by_cases he:(dimErr (D k)).2=0
   ·obtain ⟨e1,hd1,hd2,-⟩:=dimErr_right he
    rw [he,e1] at hck
    have HE:Hid ((dimErr (D k)).2=0):=he
    clear he e1
    go_wp2_with fail
    refine hck.mono ?_
    rintro e w1 ⟨rfl,hb1⟩
    have hz1:w.heap.size<w1.heap.size:=Nat.lt_of_lt_of_le hszr hb1.size
    have c1:w1.cell? ⟨w.heap.size,0,none⟩=some (.slice (some ⟨b,o,none⟩) n cap):=(hb1.cell (p:=⟨w.heap.size,0,none⟩) hszr).trans c0
    have HM1:Hid (DimsAt w1 b o n D A C):=HMr.out.later hb1
    have HB1:Hid (Below W.heap.size W w1):=onB HBr.out hb1
    clear hb1 hck c0 h0 h1 h2 HMr hd1 hd2
    go_wp2_with fail
    go_loopg [7,8] k (fun g s7 s8 wr => ∃ (j:Nat),j≤k∧g=k-j∧s8=.int .i64 j∧((s7=.int .i64 0∧findFrom (fun j=>same (D j).name (D k).name) (k-j) j=findFrom (fun j=>same (D j).name (D k).name) k 0)∨(s7=.int .i64 7∧clashD D k=true))∧Below w1.heap.size w1 wr)
    case atStart=>exact ⟨0,Nat.zero_le _,rfl,rfl,Or.inl ⟨rfl,rfl⟩,Below.refl _ _⟩
    case round =>
     obtain ⟨j,hj,rfl,rfl,hs,hBi⟩:=hrel
     have HBi:Hid (Below w1.heap.size w1 wr):=hBi
     have c2:wr.cell? ⟨w.heap.size,0,none⟩=some (.slice (some ⟨b,o,none⟩) n cap):=(hBi.cell (p:=⟨w.heap.size,0,none⟩) hz1).trans c1
     have hMi:=HM1.out.later hBi
     clear hBi
     rcases hs with ⟨rfl,hff⟩ | ⟨rfl,hcl⟩
     ·have HFF:Hid (findFrom (fun j=>same (D j).name (D k).name) (k-j) j=findFrom (fun j=>same (D j).name (D k).name) k 0):=hff
      clear hff
      by_cases hjk:j<k
      ·obtain ⟨a0,-,-,-⟩:=hMi.2 j (by omega)
       obtain ⟨b0,-,-,-⟩:=hMi.2 k hlt
       have hji:(j:Int)<(k:Int):=by omega
       have hjn:(j:Int)<(n:Int):=by omega
       have hsj:k-j=(k-(j+1))+1:=by omega
       clear hMi
       cases hq:((D j).name.toList == (D k).name.toList)
       ·have HQ:Hid ((fun j=>same (D j).name (D k).name) j=false):=hq
        go_wp2_with fail
        go_quiet (fail)
        go_wp2_with fail
        go_roundg (k-(j+1))
        case measure=>omega
        case rel=>exact ⟨j+1,by omega,rfl,by go_num,Or.inl ⟨rfl,by rw [←HFF.out,hsj,findFrom_miss _ HQ.out]⟩,onB HBi.out (below_drewN (Below.refl _ _) _)⟩
       ·have HQ:Hid (clashD D k=true):=clashD_hit hjk hq
        go_wp2_with fail
        go_quiet (fail)
        go_wp2_with fail
        go_roundg (k-(j+1))
        case measure=>omega
        case rel=>exact ⟨j+1,by omega,rfl,by go_num,Or.inr ⟨rfl,HQ.out⟩,onB HBi.out (below_drewN (Below.refl _ _) _)⟩
      ·have hje:j=k:=by omega
       have hji:(k:Int)≤(j:Int):=by omega
       have hcl:clashD D k=false:=clashD_none (by rw [←HFF.out,hje,Nat.sub_self];rfl)
       have HK:Hid (oneD D k=(-1,0)):=one2 HE.out hcl
       clear hMi hcl
       go_wp2_with fail
       go_roundg (n-(k+1))
       case measure=>omega
       case rel=>exact ⟨k+1,by omega,rfl,by go_num,by rw [←HF.out,hsk,scanD_ok _ (by rw [HK.out])],onB HB1.out HBi.out⟩
     ·have HK:Hid (oneD D k=(-1,7)):=one1 HE.out hcl
      clear hMi hcl
      have hsb:scanD D n 0=((k:Int),-1,7):=by rw [←HF.out,hsk,scanD_bad _ (by rw [HK.out];decide),HK.out]
      have HR:Hid (allErr D n=((k:Int),-1,7)):=by show _=_;rw [al2 (by omega) (by omega) (by rw [hsb];show (7:Int)≠0;decide),hsb]
      clear hsb
      by_cases hjk:(j:Int)<(k:Int)
      ·go_wp2_with fail
       refine bodyPost_ret (v:=.tuple #[.int .i64 k,.int .i64 (-1),.int .i64 7]) (by simp [results,Tryz.results55,go_sem]) rfl ⟨by rw [HR.out],?_⟩
       exact onB HB0.out (onB HB1.out HBi.out)
      ·go_wp2_with fail
       refine bodyPost_ret (v:=.tuple #[.int .i64 k,.int .i64 (-1),.int .i64 7]) (by simp [results,Tryz.results55,go_sem]) rfl ⟨by rw [HR.out],?_⟩
       exact onB HB0.out (onB HB1.out HBi.out)
   ·have HK:Hid (oneD D k=dimErr (D k)):=one0 he
    have HE:Hid ((dimErr (D k)).2≠0):=he
    have hsb:scanD D n 0=((k:Int),(dimErr (D k)).1,(dimErr (D k)).2):=by rw [←HF.out,hsk,scanD_bad _ (by rw [HK.out];exact he),HK.out]
    have HR:Hid (allErr D n=((k:Int),(dimErr (D k)).1,(dimErr (D k)).2)):=by show _=_;rw [al2 (by omega) (by omega) (by rw [hsb];exact he),hsb]
    have he2:((dimErr (D k)).2 == 0)=false:=by simpa using he
    clear he hsb HK HE
    generalize (dimErr (D k)).2=ec at hck HR he2
    generalize (dimErr (D k)).1=kc at hck HR
    go_wp2_with fail
    refine hck.mono ?_
    rintro e w1 ⟨rfl,hb1⟩
    have HB1:Hid (Below W.heap.size W w1):=onB HBr.out hb1
    clear hb1 hck
    go_wp2_with fail
    by_cases hk0:(0:Int)<(k:Int)
    ·refine wp_loop_rounds 1 ?_
     rw [rounds_succ]
     go_wp2_with fail
     refine bodyPost_ret (v:=.tuple #[.int .i64 k,.int .i64 kc,.int .i64 ec]) (by simp [results,Tryz.results55,go_sem]) rfl ⟨by rw [HR.out],?_⟩
     exact onB HB0.out HB1.out
    ·have hk0':(k:Int)≤0:=by omega
     refine wp_loop_rounds 1 ?_
     rw [rounds_succ]
     go_wp2_with fail
     refine bodyPost_ret (v:=.tuple #[.int .i64 k,.int .i64 kc,.int .i64 ec]) (by simp [results,Tryz.results55,go_sem]) rfl ⟨by rw [HR.out],?_⟩
     exact onB HB0.out HB1.out
  ·have hke:k=n:=by omega
   subst hke
   have hs0:(scanD D k 0).2.2=0:=by rw [←HF.out,Nat.sub_self];rfl
   have hone:=(scanD_right k 0 hs0).2
   have hcs:=osize_any b o k cap D A C wo (by omega) (fun j hj=>(dimErr_right (oneD_right (hone j (Nat.zero_le _) (by omega)))).2.2.1) hMr
   clear hone hMr
   by_cases hp:3000<prodN D k
   ·have hp':3000<(prodN D k:Int):=by omega
    have HR:Hid (allErr D k=(-1,-1,4)):=al3 (by omega) (by omega) hs0 hp
    clear hs0 hp
    go_wp2_with fail
    refine hcs.mono ?_
    rintro e w2 ⟨rfl,hb2⟩
    go_wp2_with fail
    refine bodyPost_ret (v:=.tuple #[.int .i64 (-1),.int .i64 (-1),.int .i64 4]) (by simp [results,Tryz.results55,go_sem]) rfl ⟨by rw [HR.out],?_⟩
    exact onB HB0.out (onB HBr.out hb2)
   ·have hp':(prodN D k:Int)≤3000:=by omega
    have HR:Hid (allErr D k=(-1,-1,0)):=al4 (by omega) (by omega) hs0 hp
    clear hs0 hp
    go_wp2_with fail
    refine hcs.mono ?_
    rintro e w2 ⟨rfl,hb2⟩
    go_wp2_with fail
    refine bodyPost_ret (v:=.tuple #[.int .i64 (-1),.int .i64 (-1),.int .i64 0]) (by simp [results,Tryz.results55,go_sem]) rfl ⟨by rw [HR.out],?_⟩
    exact onB HB0.out (onB HBr.out hb2)
theorem news5 {w:World} {x:Nd} {n:Nat} (hn:w.heap.size=n):∀ j u,(cellsNd1 x)[j]?=some u→(w.alloc (.cells #[.int .i64 x.op,.int .i64 x.n,.string x.name,.int .i64 x.left,.int .i64 x.right] 62)).cell? ((⟨n,0,none⟩:Addr).add j)=some u:=by
 subst hn
 exact World.news_of_block (cs := #[.int .i64 x.op,.int .i64 x.n,.string x.name,.int .i64 x.left,.int .i64 x.right]) (t:=62) (fr:=(0,0)) (heap_alloc_new _ _)
theorem ones5 {x:Nd}:∀ u∈cellsNd1 x,u.oneCell'=true:=by intro u hu;simp [cellsNd1] at hu;rcases hu with rfl | rfl | rfl | rfl | rfl <;> rfl
theorem name_empty {s:ByteArray} (h:s.size=0):s=noT:=by
 obtain ⟨d⟩:=s
 have:d=#[]:=Array.eq_empty_of_size_eq_zero h
 subst this
 rfl
set_option maxHeartbeats 2000000 in
theorem rless_any (A B:Option Addr) (ca cb:Nat) (a b:List Int) (w:World) (ha:a.length≤4) (hb:b.length≤4) (hA:PlAt w A ca a) (hB:PlAt w B cb b):Calls Tryz.prog 53 #[.slice A a.length ca,.slice B b.length cb] w fun e w'=>e=.returned (.bool (lessL a b))∧Below w.heap.size w w':=by
 have HA:Hid (PlAt w A ca a):=hA
 have HB:Hid (PlAt w B cb b):=hB
 have HN:Hid (∀ k,k<a.length→k<b.length→lessL (a.drop k) (b.drop k)=if a.getD k 0=b.getD k 0 then lessL (a.drop (k+1)) (b.drop (k+1)) else decide (a.getD k 0<b.getD k 0)):=fun k h1 h2=>lessL_in h1 h2
 have HL:Hid (∀ k,b.length≤k→lessL (a.drop k) (b.drop k)=false):=fun k h2=>lessL_long h2
 have HS:Hid (∀ k,a.length≤k→k<b.length→lessL (a.drop k) (b.drop k)=true):=fun k h1 h2=>lessL_short h1 h2
 obtain ⟨na,hna⟩:∃ na,a.length=na:=⟨_,rfl⟩
 obtain ⟨nb,hnb⟩:∃ nb,b.length=nb:=⟨_,rfl⟩
 have HNA:Hid (a.length=na):=hna
 have HNB:Hid (b.length=nb):=hnb
 rw [hna] at HN HS ha
 rw [hnb] at HN HL HS hb
 rw [hna,hnb]
 have ha':(na:Int)≤4:=by omega
 have hb':(nb:Int)≤4:=by omega
 clear hA hB hna hnb
 go_enter Tryz.func53,Tryz.ntmps53
 go_wp2_with fail
 go_loopg [5] na (fun g s5 wr => ∃ (k:Nat),k≤na∧k≤nb∧g=na-k∧s5=.int .i64 k∧Hid (lessL (a.drop k) (b.drop k)=lessL a b)∧Below w.heap.size w wr)
 case atStart=>exact ⟨0,Nat.zero_le _,Nat.zero_le _,rfl,rfl,(rfl:lessL (a.drop 0) (b.drop 0)=lessL a b),Below.refl _ _⟩
 case round =>
  obtain ⟨k,hk,hk2,rfl,rfl,HF,hBw⟩:=hrel
  have HBw:Hid (Below w.heap.size w wr):=hBw
  by_cases hlt:k<na
  ·have hki:(k:Int)<(na:Int):=by omega
   by_cases hlb:k<nb
   ·obtain ⟨hc,h0 | ⟨g1,o1,rfl,hbw,hcell⟩⟩:=HA.out.later hBw
    ·have:=HNA.out;rw [h0] at this;simp at this;omega
    obtain ⟨hc',h0 | ⟨g2,o2,rfl,hbw2,hcell2⟩⟩:=HB.out.later hBw
    ·have:=HNB.out;rw [h0] at this;simp at this;omega
    have x1:=hcell k (by rw [HNA.out];exact hlt)
    have x2:=hcell2 k (by rw [HNB.out];exact hlb)
    have hkb:(k:Int)<(nb:Int):=by omega
    have hst:=HN.out k hlt hlb
    generalize a.getD k 0=x at x1 hst
    generalize b.getD k 0=y at x2 hst
    clear hcell hcell2 hBw
    by_cases hxy:x=y
    ·have HR:Hid (lessL (a.drop (k+1)) (b.drop (k+1))=lessL a b):=by show _=_;rw [←HF.out,hst,if_pos hxy]
     subst hxy
     clear hst
     go_wp2_with fail
     go_quiet (fail)
     go_wp2_with fail
     go_roundg (na-(k+1))
     case measure=>omega
     case rel=>exact ⟨k+1,by omega,by omega,rfl,by go_num,HR,below_drewN HBw.out _⟩
    ·have HR:Hid (lessL a b=decide (x<y)):=by show _=_;rw [←HF.out,hst,if_neg hxy]
     clear hst
     go_wp2_with fail
     go_quiet (fail)
     go_wp2_with fail
     go_quiet (fail)
     go_wp2_with fail
     go_ret
     rw [HR.out]
     exact ⟨rfl,below_drewN (below_drewN HBw.out _) _⟩
   ·have HR:Hid (lessL a b=false):=by show _=_;rw [←HF.out,HL.out k (by omega)]
    have hkb:(nb:Int)≤(k:Int):=by omega
    have hnn:decide ((na:Int)<(nb:Int))=false:=decide_eq_false (by omega)
    have hnn':decide (na<nb)=false:=decide_eq_false (by omega)
    clear hBw
    go_wp2_with fail
    go_ret
    rw [HR.out]
    exact ⟨rfl,HBw.out⟩
  ·have hke:k=na:=by omega
   subst hke
   by_cases hlb:k<nb
   ·have HR:Hid (lessL a b=true):=by show _=_;rw [←HF.out,HS.out k (Nat.le_refl _) hlb]
    have hkb:(k:Int)<(nb:Int):=by omega
    clear hBw
    go_wp2_with fail
    go_ret
    rw [HR.out]
    exact ⟨rfl,HBw.out⟩
   ·have HR:Hid (lessL a b=false):=by show _=_;rw [←HF.out,HL.out k (by omega)]
    have hkb:(nb:Int)≤(k:Int):=by omega
    clear hBw
    go_wp2_with fail
    go_ret
    rw [HR.out]
    exact ⟨rfl,HBw.out⟩
end Go.Proofs.YtfldgghobddgkaaGreatDoor
