/-
  Formulas as trees, on plain data: their nodes one behind the other, their words; a builder that takes the words of a tree comes to its nodes.
-/
import Derived.Lib.OwnBridge
import Derived.Shelf.Slices.In.SortNone
import Derived.Test.YtpoklbfffgpbiaaGreatDoorJYAR
namespace Go.Proofs.YtpoklbfffgpbiaaGreatDoor
theorem num_all (u:Nat):∀ b∈Lib.decDigits u,48≤b.toNat∧b.toNat≤57:=by
 induction u using Nat.strongRecOn with
 | _ u ih =>
  intro b hb
  by_cases h:u<10
  ·rw [Lib.decDigits_one h,List.mem_singleton] at hb
   subst hb
   have e:(UInt8.ofNat (48+u)).toNat=48+u:=by simp;omega
   omega
  ·rw [Lib.decDigits,dif_neg h,List.mem_append,List.mem_singleton] at hb
   rcases hb with hb | hb
   ·exact ih (u / 10) (by omega) b hb
   ·subst hb
    have e:(UInt8.ofNat (48+u % 10)).toNat=48+u % 10:=by simp;omega
    omega
theorem name_first {s:ByteArray} (h:nameErr s=0):1≤s.size∧s.size≤8∧∀ i,i<s.size→letB (byteN s i)=true:=by
 unfold nameErr at h
 split at h
 ·cases h
 ·rename_i h1
  split at h
  ·cases h
  ·rename_i h2
   refine ⟨by omega,by omega,fun i hi=>?_⟩
   rcases findFrom_cases (badByte s) s.size 0 with ⟨_,h3⟩ | ⟨m,e,_⟩
   ·have:=h3 i (Nat.zero_le _) (by omega)
    unfold badByte badB at this
    unfold letB
    simp at this ⊢
    omega
   ·omega
end Go.Proofs.YtpoklbfffgpbiaaGreatDoor
namespace Go.Proofs.YtpoklbfffgpbiaaGreatDoor
open Go Go.ChangeShapes Go.WideShapes Go.ChangeAt Go.RowKit
set_option maxRecDepth 1000000
set_option maxHeartbeats 64000000
theorem plain_addK (b j:Nat):(⟨b,0,none⟩:Addr).add j=⟨b,j,none⟩:=by unfold Addr.add;split <;> simp_all
theorem own_formK {w:World} {base e size n:Nat} {v:Value} {xs:List Value} (h:w.ownsRow base e size v n xs):∃ A cap,v=.slice A n cap:=by
 rcases h.2 with ⟨rfl,h0⟩ | ⟨g,cap,cur,rfl,_⟩
 ·exact ⟨none,0,by rw [h0]⟩
 ·exact ⟨_,_,rfl⟩
theorem Tryz.infoEntK:(Tryz.prog.info? 36).map (fun i=>(i.zero,i.size,i.bytes))=some (some (.agg #[.slice none 0 0,.int .i64 0]),2,32):=by kernel_rfl
end Go.Proofs.YtpoklbfffgpbiaaGreatDoor
namespace Go.Proofs.YtpoklbfffgpbiaaGreatDoor
open Go.ChangeShapes Go.WideShapes Go.ChangeAt Go.RowKit
open Go.Sort (putRow Holds grow holds_putRow)
set_option maxRecDepth 20000
def nmsTo (l:List Nd) (k:Nat):List (List UInt8):=((l.take k).filter fun x=>decide (x.op=2)).map fun x=>x.name.data.toList
def refsP (l:List Nd):List (List UInt8):=if formErr l=0 then Lib.compact ((nmsTo l l.length).mergeSort fun x y=>decide (x≤y)) else []
theorem nms_hit {l:List Nd} {k:Nat} {x:Nd} (hk:k<l.length) (hx:l.getD k noN=x) (h:x.op=2):nmsTo l (k+1)=nmsTo l k ++ [x.name.data.toList]:=by
 unfold nmsTo
 rw [take_snoc l hk,hx,List.filter_append,List.map_append]
 simp [h]
theorem nms_miss {l:List Nd} {k:Nat} {x:Nd} (hk:k<l.length) (hx:l.getD k noN=x) (h:x.op≠2):nmsTo l (k+1)=nmsTo l k:=by
 unfold nmsTo
 rw [take_snoc l hk,hx,List.filter_append,List.map_append]
 simp [h]
theorem nms_len (l:List Nd) (k:Nat):(nmsTo l k).length≤k:=by
 unfold nmsTo
 rw [List.length_map]
 exact Nat.le_trans (List.length_filter_le _ _) (by rw [List.length_take];omega)
def StrsV (w:World) (A:Option Addr) (c:Nat) (L:List (List UInt8)):Prop:=L.length≤c∧c≤9223372036854775807∧(L=[]∨∃ b o,A=some ⟨b,o,none⟩∧b<w.heap.size∧∀ j,j<L.length→w.cell? ⟨b,o+j,none⟩=some (.string ⟨(L.getD j []).toArray⟩))
theorem StrsV.nil (w:World) (A:Option Addr) (c:Nat) (h:c≤9223372036854775807):StrsV w A c []:=⟨Nat.zero_le _,h,Or.inl rfl⟩
theorem StrsV.later {w w':World} {A:Option Addr} {c:Nat} {L:List (List UInt8)} (h:StrsV w A c L) (hB:Below w.heap.size w w'):StrsV w' A c L:=by
 obtain ⟨h1,h2,h3 | ⟨b,o,h3,h4,h5⟩⟩:=h
 ·exact ⟨h1,h2,Or.inl h3⟩
 ·exact ⟨h1,h2,Or.inr ⟨b,o,h3,Nat.lt_of_lt_of_le h4 hB.size,fun j hj=>(hB.cell (p:=⟨b,o+j,none⟩) h4).trans (h5 j hj)⟩⟩
theorem put_off {w:World} {g k:Nat} {d:Array (List UInt8)} (h:k≠g):(putRow encStr w g 0 d).heap[k]?=w.heap[k]?:=by
 unfold putRow Sort.mapBlock
 simp only [Array.getElem?_modify]
 rw [if_neg (fun e=>h e.symm)]
theorem sorted_below {w0 w:World} {g n:Nat} {d:Array (List UInt8)} {os:Array Obj} (h:Below w0.heap.size w0 w) (hg:w0.heap.size≤g):Below w0.heap.size w0 (grow (putRow encStr (Sort.ahead w n) g 0 d) os):=by
 refine ⟨h.os,h.tape,h.output,by have:=h.size;simp;omega,fun k hk=>?_⟩
 have hs:=h.size
 rw [Sort.heap_grow_old _ _ (by simp;omega),put_off (by omega)]
 exact h.block k hk
theorem packed_below {w0 w:World} {g n:Nat} {d:Array (List UInt8)} (h:Below w0.heap.size w0 w) (hg:w0.heap.size≤g):Below w0.heap.size w0 (putRow encStr (Sort.ahead w n) g 0 d):=by
 refine ⟨h.os,h.tape,h.output,by have:=h.size;simp;omega,fun k hk=>?_⟩
 rw [put_off (by omega)]
 exact h.block k hk
theorem compact_len (zs:List (List UInt8)):(Lib.compact zs).length≤zs.length:=by
 unfold Lib.compact Lib.compactUpTo
 rw [List.length_map]
 exact Nat.le_trans (List.length_filter_le _ _) (by simp)
theorem packed_strs {w:World} {g n cap:Nat} {zs:List (List UInt8)} (hH:Holds encStr w g 0 zs.toArray) (hc:zs.length≤cap) (hm:cap≤maxLen) (hg:g<w.heap.size) :
  StrsV (putRow encStr (Sort.ahead w n) g 0 (Lib.compact zs ++ List.replicate (zs.length-(Lib.compact zs).length) []).toArray) (some ⟨g,0,none⟩) cap (Lib.compact zs):=by
 have hl:=compact_len zs
 refine ⟨by omega,by unfold maxLen at hm;omega,Or.inr ⟨g,0,rfl,by simpa using hg,fun j hj=>?_⟩⟩
 have hs:(Lib.compact zs ++ List.replicate (zs.length-(Lib.compact zs).length) []).toArray.size=zs.toArray.size:=by simp;omega
 have h1:=(holds_putRow encStr (Sort.ahead w n) g 0 zs.toArray _ hH hs j (by rw [hs];simp;omega)).1
 rw [h1]
 have e:(Lib.compact zs ++ List.replicate (zs.length-(Lib.compact zs).length) ([]:List UInt8)).toArray[j]! = (Lib.compact zs).getD j []:=by
  rw [getElem!_pos _ j (by rw [hs];simp;omega)]
  simp [List.getD,List.getElem?_eq_getElem hj,List.getElem_append_left hj]
 rw [e]
end Go.Proofs.YtpoklbfffgpbiaaGreatDoor
namespace Go.Proofs.YtpoklbfffgpbiaaGreatDoor
open Go.ChangeShapes Go.WideShapes Go.ChangeAt Go.RowKit
theorem eachO {w:World} {o:Obj} {k:Nat} {x:Obj} (h:w.heap[k]?=some x):(w.alloc o).heap[k]?=some x:=by
 rw [heap_alloc_old _ _ (Array.getElem?_eq_some_iff.1 h).1]
 exact h
end Go.Proofs.YtpoklbfffgpbiaaGreatDoor
namespace Go.Proofs.YtpoklbfffgpbiaaGreatDoor
open Go.ChangeShapes Go.WideShapes Go.ChangeAt Go.RowKit
set_option maxRecDepth 20000
def twoO (w:World) (u v:Value):World:=(w.alloc (.cells #[u] 24)).alloc (.cells #[v] 24)
theorem twoO_at (w:World) (u v:Value):(twoO w u v).heap[w.heap.size]?=some (.cells #[u] 24 (0,0))∧(twoO w u v).heap[w.heap.size+1]?=some (.cells #[v] 24 (0,0)):=by
 have h1:(w.alloc (.cells #[u] 24)).heap[w.heap.size]?=some (.cells #[u] 24 (0,0)):=heap_alloc_new ..
 have hs:(w.alloc (.cells #[u] 24)).heap.size=w.heap.size+1:=by simp
 refine ⟨(Below.heap_alloc _ _ _ (by omega)).trans h1,?_⟩
 rw [←hs]
 exact heap_alloc_new ..
theorem twoO_below (w:World) (u v:Value):Below w.heap.size w (twoO w u v):=by unfold twoO;go_grown
def twoDs (w:World) (u0 u1 u2 v0 v1 v2:Value):World:=(w.alloc (.cells #[u0,u1,u2] 32)).alloc (.cells #[v0,v1,v2] 32)
theorem twoD_at (w:World) (u0 u1 u2 v0 v1 v2:Value):(twoDs w u0 u1 u2 v0 v1 v2).heap[w.heap.size]?=some (.cells #[u0,u1,u2] 32 (0,0))∧(twoDs w u0 u1 u2 v0 v1 v2).heap[w.heap.size+1]?=some (.cells #[v0,v1,v2] 32 (0,0)):=by
 have h1:(w.alloc (.cells #[u0,u1,u2] 32)).heap[w.heap.size]?=some (.cells #[u0,u1,u2] 32 (0,0)):=heap_alloc_new ..
 have hs:(w.alloc (.cells #[u0,u1,u2] 32)).heap.size=w.heap.size+1:=by simp
 refine ⟨(Below.heap_alloc _ _ _ (by omega)).trans h1,?_⟩
 rw [←hs]
 exact heap_alloc_new ..
theorem twoD_below (w:World) (u0 u1 u2 v0 v1 v2:Value):Below w.heap.size w (twoDs w u0 u1 u2 v0 v1 v2):=by unfold twoDs;go_grown
set_option maxHeartbeats 16000000 in
theorem sameout_any (A0 B0:Option Addr) (ca cb n:Nat) (D:Nat→Dm) (A:Nat→Option Addr) (C:Nat→Nat) (A':Nat→Option Addr) (C':Nat→Nat) (w:World) (hn:n≤4) (hd:∀ i,i<n→(D i).n≤12) (hA:DimsV w A0 ca n D A C) (hB:DimsV w B0 cb n D A' C') :
  Calls Tryz.prog 7 #[.agg #[.slice A0 n ca],.agg #[.slice B0 n cb]] w fun e w'=>e=.returned (.bool true)∧Below w.heap.size w w':=by
 have hB0:=twoO_below w (.slice A0 n ca) (.slice B0 n cb)
 obtain ⟨b1,b2⟩:=twoO_at w (.slice A0 n ca) (.slice B0 n cb)
 obtain ⟨W,hW⟩:∃ W,twoO w (.slice A0 n ca) (.slice B0 n cb)=W:=⟨_,rfl⟩
 rw [hW] at hB0 b1 b2
 unfold twoO at hW
 have l2:=(Array.getElem?_eq_some_iff.1 b2).1
 have HK:Hid (∀ w',Below W.heap.size W w'→w'.cell? ⟨w.heap.size,0,none⟩=some (.slice A0 n ca)∧w'.cell? ⟨w.heap.size+1,0,none⟩=some (.slice B0 n cb)∧w.heap.size+1<w'.heap.size):=fun w' h =>
  ⟨(Lib.cell_of_heap ((h.block _ (by omega)).trans b1) 0).trans rfl,(Lib.cell_of_heap ((h.block _ l2).trans b2) 0).trans rfl,Nat.lt_of_lt_of_le l2 h.size⟩
 have HA:=hid_of (hA.later hB0)
 have HB:=hid_of (hB.later hB0)
 have HD:=hid_of hd
 have HB0:=hid_of hB0
 obtain ⟨k0,k1,k2⟩:=HK.out W (Below.refl _ _)
 have hn4:(n:Int)≤4:=by omega
 have hnn:((n:Int) != (n:Int))=false:=by simp
 have hs0:w.heap.size<W.heap.size:=by omega
 clear hA hB hd hB0 b1 b2
 go_enter Tryz.func7,Tryz.ntmps7
 go_wp2_with fail
 go_loopg [5] n (fun g s5 wr => ∃ k:Nat,k≤n∧g=n-k∧s5=.int .i64 k∧Hid (Below W.heap.size W wr))
 case atStart=>exact ⟨0,Nat.zero_le _,rfl,rfl,hid_of (Below.refl _ _)⟩
 case round =>
  obtain ⟨k,hk,rfl,rfl,HBw⟩:=hrel
  obtain ⟨wo,rfl⟩:∃ wo:World,wo=wr:=⟨_,rfl⟩
  obtain ⟨k0,k1,k2⟩:=HK.out wo HBw.out
  have hs0:w.heap.size<wo.heap.size:=by omega
  by_cases hlt:k<n
  ·have hki:(k:Int)<(n:Int):=by omega
   obtain ⟨-,h0 | ⟨ba,oa,rfl,hDa⟩⟩:=HA.out.later HBw.out
   ·omega
   obtain ⟨-,h0 | ⟨bb,ob,rfl,hDb⟩⟩:=HB.out.later HBw.out
   ·omega
   have hba:=hDa.1
   have hbb:=hDb.1
   obtain ⟨a0,a1,a2,hMa⟩:=hDa.2 k hlt
   obtain ⟨c0,c1,c2,hMb⟩:=hDb.2 k hlt
   have hm12:=HD.out k hlt
   have HMa:=hid_of hMa
   have HMb:=hid_of hMb
   obtain ⟨M,hM⟩:∃ M,(D k).mem=M:=⟨_,rfl⟩
   rw [hM] at HMa HMb
   have hB1:=twoD_below wo (.string (D k).name) (.int .i64 (D k).solve) (.slice (A k) (D k).n (C k)) (.string (D k).name) (.int .i64 (D k).solve) (.slice (A' k) (D k).n (C' k))
   obtain ⟨e1,e2⟩:=twoD_at wo (.string (D k).name) (.int .i64 (D k).solve) (.slice (A k) (D k).n (C k)) (.string (D k).name) (.int .i64 (D k).solve) (.slice (A' k) (D k).n (C' k))
   generalize (D k).name=nm at a0 c0 hB1 e1 e2
   generalize (D k).solve=sv at a1 c1 hB1 e1 e2
   generalize (D k).n=m at a2 c2 hm12 HMa HMb hB1 e1 e2
   generalize A k=Ak at a2 HMa hB1 e1 e2
   generalize C k=Ck at a2 HMa hB1 e1 e2
   generalize A' k=Al at c2 HMb hB1 e1 e2
   generalize C' k=Cl at c2 HMb hB1 e1 e2
   obtain ⟨V,hV⟩:∃ V,twoDs wo (.string nm) (.int .i64 sv) (.slice Ak m Ck) (.string nm) (.int .i64 sv) (.slice Al m Cl)=V:=⟨_,rfl⟩
   rw [hV] at hB1 e1 e2
   unfold twoDs at hV
   have HBV:=hid_of (onB HBw.out hB1)
   have l3:=(Array.getElem?_eq_some_iff.1 e2).1
   have HKV:Hid (∀ w',Below V.heap.size V w'→w'.cell? ⟨wo.heap.size,0,none⟩=some (.string nm)∧w'.cell? ⟨wo.heap.size,1,none⟩=some (.int .i64 sv)∧w'.cell? ⟨wo.heap.size,2,none⟩=some (.slice Ak m Ck)∧w'.cell? ⟨wo.heap.size+1,0,none⟩=some (.string nm)∧w'.cell? ⟨wo.heap.size+1,1,none⟩=some (.int .i64 sv)∧w'.cell? ⟨wo.heap.size+1,2,none⟩=some (.slice Al m Cl)∧wo.heap.size+1<w'.heap.size):=fun w' h=>by
    have f1:=(h.block _ (by omega)).trans e1
    have f2:=(h.block _ l3).trans e2
    exact ⟨(Lib.cell_of_heap f1 0).trans rfl,(Lib.cell_of_heap f1 1).trans rfl,(Lib.cell_of_heap f1 2).trans rfl,(Lib.cell_of_heap f2 0).trans rfl,(Lib.cell_of_heap f2 1).trans rfl,(Lib.cell_of_heap f2 2).trans rfl,Nat.lt_of_lt_of_le l3 h.size⟩
   have HMa':=hid_of (HMa.out.later hB1)
   have HMb':=hid_of (HMb.out.later hB1)
   obtain ⟨v0,v1,v2,v3,v4,v5,v6⟩:=HKV.out V (Below.refl _ _)
   have hsv:(sv != sv)=false:=by simp
   have hmm:((m:Int) != (m:Int))=false:=by simp
   have hmi:(m:Int)≤12:=by omega
   have hv7:wo.heap.size<V.heap.size:=by omega
   clear hM hMa hMb hDa hDb hB1 e1 e2 HMa HMb
   go_wp2_with fail
   go_loopg [8] m (fun g s8 wr => ∃ j:Nat,j≤m∧g=m-j∧s8=.int .i64 j∧Hid (Below V.heap.size V wr))
   case atStart=>exact ⟨0,Nat.zero_le _,rfl,rfl,hid_of (Below.refl _ _)⟩
   case round =>
    obtain ⟨j,hj,rfl,rfl,HBi⟩:=hrel
    obtain ⟨v0,v1,v2,v3,v4,v5,v6⟩:=HKV.out wr HBi.out
    have hv7:wo.heap.size<wr.heap.size:=by omega
    by_cases hjl:j<m
    ·have hji:(j:Int)<(m:Int):=by omega
     obtain ⟨-,h0 | ⟨bm,om,rfl,hMa⟩⟩:=HMa'.out.later HBi.out
     ·omega
     obtain ⟨-,h0 | ⟨bn,on_,rfl,hMb⟩⟩:=HMb'.out.later HBi.out
     ·omega
     obtain ⟨x0,x1,x2,x3⟩:=hMa.2 j hjl
     obtain ⟨y0,y1,y2,y3⟩:=hMb.2 j hjl
     clear hMa hMb
     go_wp2_with fail
     first | (go_quiet (fail);go_wp2_with fail) | skip
     go_roundg (m-(j+1))
     case measure=>omega
     case rel=>exact ⟨j+1,by omega,rfl,by go_num,hid_of (below_drewN HBi.out _)⟩
    ·have hje:j=m:=by omega
     subst hje
     go_wp2_with fail
     go_roundg (n-(k+1))
     case measure=>omega
     case rel=>exact ⟨k+1,by omega,rfl,by go_num,hid_of (onB HBV.out HBi.out)⟩
  ·have hke:k=n:=by omega
   subst hke
   go_wp2_with fail
   go_ret
   exact ⟨rfl,onB HB0.out HBw.out⟩
end Go.Proofs.YtpoklbfffgpbiaaGreatDoor
