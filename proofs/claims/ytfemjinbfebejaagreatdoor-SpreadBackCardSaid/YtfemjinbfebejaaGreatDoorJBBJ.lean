/-
  What Parse of package formula answers, in whatever memory: of any text its nodes, or what is wrong with it, and where.
-/
import Derived.Lib.ItoaLen
import Derived.Lib.AppendIntMem
import Derived.Lib.OwnBridge
import Derived.Shelf.Slices.In.SortNone
import Derived.Test.YtfemjinbfebejaaGreatDoorJBBI
namespace Go.Proofs.YtfemjinbfebejaaGreatDoor
open Go.ChangeShapes Go.WideShapes Go.ChangeAt Go.RowKit
set_option maxRecDepth 20000
def tkU:Unit→ByteArray→Unit:=fun _ _=>()
def goneU (s:ByteArray):Rd Unit×Bool:=allR s tkU ⟨0,0,()⟩
def goneB (s:ByteArray):Rd Bld×Bool:=allR s takeB ⟨0,0,noB⟩
def nodesP (s:ByteArray):List Nd:=(settleB 0 (goneB s).1.st).nodes
def prsE (s:ByteArray):Int:=if 100<s.size then (if (goneU s).2=true then 4 else 2) else if (goneB s).2=true then formErr (nodesP s) else 2
def prsA (s:ByteArray):Nat:=if 100<s.size then (if (goneU s).2=true then 0 else (goneU s).1.at') else if (goneB s).2=true then 0 else (goneB s).1.at'
def prsL (s:ByteArray):List Nd:=if prsE s=0 then nodesP s else []
theorem nds_of {w:World} {N:Nat} {A:Option Addr} {c:Nat} {l:List Nd} (h:w.ownsRow N 141 5 (.slice A l.length c) l.length (cellsN l)):NdsV w A c l:=by
 rcases h.2 with ⟨h0,h1⟩ | ⟨g,cap,cur,h0,hb,hg,hc,hm,hs,ht⟩
 ·simp only [Value.slice.injEq] at h0
  obtain ⟨rfl,-,rfl⟩:=h0
  exact ⟨by omega,by omega,Or.inl (List.eq_nil_of_length_eq_zero h1)⟩
 ·cases h0
  refine ⟨hc,by unfold maxLen at hm;omega,Or.inr ⟨g,0,rfl,(Array.getElem?_eq_some_iff.1 hg).1,fun k hk=>?_⟩⟩
  have hcell:∀ j u,(cellsN l)[j]?=some u→w.cell? ⟨g,j,none⟩=some u:=fun j u hu=>by
   have hx:=h.cells (g:=g) rfl j u hu
   have hadd:(⟨g,0,none⟩:Addr).add j=⟨g,j,none⟩:=by unfold Addr.add;split <;> simp_all
   rw [hadd] at hx
   exact hx
  obtain ⟨a0,a1,a2,a3,a4⟩:=cellsN_at l k hk
  simp only [Nat.zero_add]
  exact ⟨hcell _ _ a0,hcell _ _ a1,hcell _ _ a2,hcell _ _ a3,hcell _ _ a4⟩
def newB (w:World):World:=w.alloc (.cells #[.slice none 0 0,.slice none 0 0,.slice none 0 0] 135)
theorem newB_at (w:World):BldAt (w.heap.size+4) w.heap.size noB (newB w):=by
 refine ⟨none,0,none,0,none,0,by omega,heap_alloc_new w _,World.ownsRow_nil _ _ _ _,World.ownsRow_nil _ _ _ _,World.ownsRow_nil _ _ _ _,?_⟩
 intro g hg
 cases hg
theorem newB_size (w:World):(newB w).heap.size=w.heap.size+1:=by unfold newB;simp
theorem newB_below (w:World):Below w.heap.size w (newB w):=by unfold newB;go_grown
theorem below_of_kept {w w1 w2:World} {p:Nat} (h:Below w.heap.size w w1) (hk:Kept w1.heap.size (fun k=>k=p) w1 w2) (hp:w.heap.size≤p):Below w.heap.size w w2 :=
 ⟨hk.os.trans h.os,hk.tape.trans h.tape,hk.output.trans h.output,Nat.le_trans h.size hk.size,fun k hk'=>by
  rw [hk.block k (Nat.lt_of_lt_of_le hk' h.size) (by omega)]
  exact h.block k hk'⟩
theorem fit_new:FitB 0 0 false noB:=⟨rfl,by decide,Nat.le_refl _,Nat.le_refl _,Nat.le_refl _⟩
theorem opens_in {S:Type} {s:ByteArray} {tk:S→ByteArray→S}:∀ (f:Nat) (r:Rd S),r.at'≤s.size→(opensR s tk f r).at'≤s.size
 | 0,r,h=>h
 | f+1,r,h=>by
  rw [opensR]
  split
  ·rename_i h40
   exact opens_in f _ (opn_word (o:=0) h h40).1
  ·exact h
theorem closes_in {S:Type} {s:ByteArray} {tk:S→ByteArray→S}:∀ (f:Nat) (r:Rd S),r.at'≤s.size→(closesR s tk f r).at'≤s.size
 | 0,r,h=>h
 | f+1,r,h=>by
  rw [closesR]
  split
  ·rename_i h41
   exact closes_in f _ (cls_word (o:=0) h h41.2).1
  ·exact h
theorem operand_in {S:Type} {s:ByteArray} {tk:S→ByteArray→S} (r:Rd S) (h:r.at'≤s.size):(operandR s tk r).1.at'≤s.size:=by
 have h1:(openedR s tk r).at'≤s.size:=opens_in _ r h
 unfold operandR
 split
 ·rename_i hd
  exact closes_in _ _ (dig_word (o:=0) h1 hd).1
 ·split
  ·rename_i hl
   exact closes_in _ _ (let_word (o:=0) h1 hl).1
  ·exact h1
theorem loop_in {S:Type} {s:ByteArray} {tk:S→ByteArray→S}:∀ (f:Nat) (r:Rd S),r.at'≤s.size→(loopR s tk f r).1.at'≤s.size
 | 0,r,h=>h
 | f+1,r,h=>by
  have hsg:(signR s tk r).1.at'≤s.size:=by
   unfold signR
   split
   ·exact h
   ·rename_i hs
    exact (sgn_stp (o:=0) h hs).1
  rw [loopR]
  split
  ·split
   ·split
    ·exact loop_in f _ (operand_in _ hsg)
    ·exact operand_in _ hsg
   ·exact hsg
  ·exact h
theorem all_in {S:Type} {s:ByteArray} {tk:S→ByteArray→S} (r:Rd S) (h:r.at'≤s.size):(allR s tk r).1.at'≤s.size:=by
 unfold allR
 split
 ·split
  ·exact loop_in _ _ (operand_in _ h)
  ·exact loop_in _ _ (operand_in _ h)
 ·exact operand_in _ h
theorem Tryz.infoStrF:(Tryz.prog.info? 9).map (fun i=>(i.zero,i.size,i.bytes))=some (some (.string ⟨#[]⟩),1,16):=by kernel_rfl
theorem take_snoc (l:List Nd) {k:Nat} (hk:k<l.length):l.take (k+1)=l.take k ++ [l.getD k noN]:=by
 rw [List.take_add_one,List.getElem?_eq_getElem hk]
 simp [List.getD,List.getElem?_eq_getElem hk]
end Go.Proofs.YtfemjinbfebejaaGreatDoor
namespace Go.Proofs.YtfemjinbfebejaaGreatDoor
open Go.ChangeShapes Go.WideShapes Go.ChangeAt Go.RowKit
open Go.Sort (putRow Holds grow holds_putRow)
set_option maxRecDepth 20000
def nmsTo (l:List Nd) (k:Nat):List (List UInt8):=((l.take k).filter fun x=>decide (x.op=2)).map fun x=>x.name.data.toList
def refsP (l:List Nd):List (List UInt8):=if formErr l=0 then Lib.compact ((nmsTo l l.length).mergeSort fun x y=>decide (x≤y)) else []
theorem nms_hit {l:List Nd} {k:Nat} {x:Nd} (hk:k<l.length) (hx:l.getD k noN=x) (h:x.op=2):nmsTo l (k+1)=nmsTo l k ++ [x.name.data.toList]:=by
 unfold nmsTo
 rw [take_snoc l hk,hx,List.filter_append,List.map_append]
 simp [h]
theorem nms_miss {l:List Nd} {k:Nat} {x:Nd} (hk:k<l.length) (hx:l.getD k noN=x) (h:x.op≠2):nmsTo l (k+1)=nmsTo l k:=by
 unfold nmsTo
 rw [take_snoc l hk,hx,List.filter_append,List.map_append]
 simp [h]
theorem nms_len (l:List Nd) (k:Nat):(nmsTo l k).length≤k:=by
 unfold nmsTo
 rw [List.length_map]
 exact Nat.le_trans (List.length_filter_le _ _) (by rw [List.length_take];omega)
def StrsV (w:World) (A:Option Addr) (c:Nat) (L:List (List UInt8)):Prop:=L.length≤c∧c≤9223372036854775807∧(L=[]∨∃ b o,A=some ⟨b,o,none⟩∧b<w.heap.size∧∀ j,j<L.length→w.cell? ⟨b,o+j,none⟩=some (.string ⟨(L.getD j []).toArray⟩))
theorem StrsV.nil (w:World) (A:Option Addr) (c:Nat) (h:c≤9223372036854775807):StrsV w A c []:=⟨Nat.zero_le _,h,Or.inl rfl⟩
theorem StrsV.later {w w':World} {A:Option Addr} {c:Nat} {L:List (List UInt8)} (h:StrsV w A c L) (hB:Below w.heap.size w w'):StrsV w' A c L:=by
 obtain ⟨h1,h2,h3 | ⟨b,o,h3,h4,h5⟩⟩:=h
 ·exact ⟨h1,h2,Or.inl h3⟩
 ·exact ⟨h1,h2,Or.inr ⟨b,o,h3,Nat.lt_of_lt_of_le h4 hB.size,fun j hj=>(hB.cell (p:=⟨b,o+j,none⟩) h4).trans (h5 j hj)⟩⟩
theorem put_off {w:World} {g k:Nat} {d:Array (List UInt8)} (h:k≠g):(putRow encStr w g 0 d).heap[k]?=w.heap[k]?:=by
 unfold putRow Sort.mapBlock
 simp only [Array.getElem?_modify]
 rw [if_neg (fun e=>h e.symm)]
theorem sorted_below {w0 w:World} {g n:Nat} {d:Array (List UInt8)} {os:Array Obj} (h:Below w0.heap.size w0 w) (hg:w0.heap.size≤g):Below w0.heap.size w0 (grow (putRow encStr (Sort.ahead w n) g 0 d) os):=by
 refine ⟨h.os,h.tape,h.output,by have:=h.size;simp;omega,fun k hk=>?_⟩
 have hs:=h.size
 rw [Sort.heap_grow_old _ _ (by simp;omega),put_off (by omega)]
 exact h.block k hk
theorem packed_below {w0 w:World} {g n:Nat} {d:Array (List UInt8)} (h:Below w0.heap.size w0 w) (hg:w0.heap.size≤g):Below w0.heap.size w0 (putRow encStr (Sort.ahead w n) g 0 d):=by
 refine ⟨h.os,h.tape,h.output,by have:=h.size;simp;omega,fun k hk=>?_⟩
 rw [put_off (by omega)]
 exact h.block k hk
theorem compact_len (zs:List (List UInt8)):(Lib.compact zs).length≤zs.length:=by
 unfold Lib.compact Lib.compactUpTo
 rw [List.length_map]
 exact Nat.le_trans (List.length_filter_le _ _) (by simp)
theorem packed_strs {w:World} {g n cap:Nat} {zs:List (List UInt8)} (hH:Holds encStr w g 0 zs.toArray) (hc:zs.length≤cap) (hm:cap≤maxLen) (hg:g<w.heap.size) :
  StrsV (putRow encStr (Sort.ahead w n) g 0 (Lib.compact zs ++ List.replicate (zs.length-(Lib.compact zs).length) []).toArray) (some ⟨g,0,none⟩) cap (Lib.compact zs):=by
 have hl:=compact_len zs
 refine ⟨by omega,by unfold maxLen at hm;omega,Or.inr ⟨g,0,rfl,by simpa using hg,fun j hj=>?_⟩⟩
 have hs:(Lib.compact zs ++ List.replicate (zs.length-(Lib.compact zs).length) []).toArray.size=zs.toArray.size:=by simp;omega
 have h1:=(holds_putRow encStr (Sort.ahead w n) g 0 zs.toArray _ hH hs j (by rw [hs];simp;omega)).1
 rw [h1]
 have e:(Lib.compact zs ++ List.replicate (zs.length-(Lib.compact zs).length) ([]:List UInt8)).toArray[j]! = (Lib.compact zs).getD j []:=by
  rw [getElem!_pos _ j (by rw [hs];simp;omega)]
  simp [List.getD,List.getElem?_eq_getElem hj,List.getElem_append_left hj]
 rw [e]
end Go.Proofs.YtfemjinbfebejaaGreatDoor
