/-
  What reach of package need answers, whatever tells what is next to a number: all that is reached, rising, in a row of its own; in whatever memory.
-/
import Derived.Test.YtfngmnhkhfgmjagGreatDoorJDBP
namespace Go.Proofs.YtfngmnhkhfgmjagGreatDoor
open Go.ChangeShapes Go.WideShapes Go.ChangeAt Go.RowKit
open Go.Sort (putRow Holds grow holds_putRow)
set_option maxRecDepth 20000
theorem grow_later (w:World) (os:Array Obj):Below w.heap.size w (grow w os):=⟨rfl,rfl,rfl,by simp,fun k hk=>Sort.heap_grow_old _ _ hk⟩
theorem sorted_own {w:World} {base g n cap q:Nat} {zs ys:List Int} {os:Array Obj} (h:w.ownsRow base 3 1 (.slice (some ⟨g,0,none⟩) n cap) n (mapI zs)) (hy:ys.length=n):(grow (putRow (Value.int .i64) (Sort.ahead w q) g 0 ys.toArray) os).ownsRow base 3 1 (.slice (some ⟨g,0,none⟩) n cap) n (mapI ys):=by
 have h1:=Lib.ownsRow_putRow (enc:=Value.int .i64) (q:=q) (zs:=zs) (ys:=ys) (k:=n) h hy (Nat.le_refl _)
 rw [List.take_of_length_le (by omega)] at h1
 exact own_later h1 (grow_later _ _)
theorem sorted_off {w:World} {g n b:Nat} {d:Array Int} {os:Array Obj} (hb:b<w.heap.size) (hg:b≠g):(grow (putRow (Value.int .i64) (Sort.ahead w n) g 0 d) os).heap[b]?=w.heap[b]?:=by
 rw [Sort.heap_grow_old _ _ (by simpa using hb),put_offI hg]
 rfl
theorem srt_lt {L:List Int} (h:L.Nodup):(L.mergeSort fun a b=>decide (a≤b)).Pairwise (· < ·):=by
 have hnd:List.Pairwise (fun a b=>a≠b) (L.mergeSort fun a b=>decide (a≤b)):=(List.mergeSort_perm _ _).symm.pairwise h fun {a b} h e=>h e.symm
 exact ((srt_ints _).and hnd).imp fun h=>by omega
def RK (w:World) (W0:World) (bS bF bM N:Nat) (nx:Nat→List Int) (S:List Int) (k:Nat) (v:Value) (L:List Int):Prop:=RS w W0.heap.size bS bF bM v L∧ReI nx S L k∧k≤L.length∧InN N L∧Below W0.heap.size W0 w
set_option maxHeartbeats 16000000 in
theorem nreach_any (F:Nat) (fa cp:Array Value) (nx:Nat→List Int) (N:Nat) (hent:∀ (args:Array Value) (w:World),(callFunc F args).run Tryz.prog w=.ok (.enter F args) w) (A:Option Addr) (c:Nat) (S:List Int) (w:World) (hN:N≤3000) (hSl:S.length≤3000) (hS:IntT w A c S) (hSi:InN N S) (hxi:∀ y,y<N→InN N (nx y)) (hxl:∀ y,y<N→(nx y).length≤3000)
  (hF:∀ (y:Nat) (w':World),y<N→Below w.heap.size w w'→Calls Tryz.prog F (fa ++ #[.int .i64 y] ++ cp) w' fun e w''=>(∃ A' c',e=.returned (.tuple #[.slice A' (nx y).length c',.nilIface])∧IntT w'' A' c' (nx y)∧∀ a,A'=some a→a.block<w.heap.size∨w'.heap.size≤a.block)∧Below w'.heap.size w' w'') :
  Calls Tryz.prog 57 #[.slice A S.length c,.func (.func F) fa cp] w fun e w'=>(∃ v L,e=.returned (.tuple #[v,.nilIface])∧w'.ownsRow w.heap.size 3 1 v L.length (mapI L)∧L.Pairwise (· < ·)∧∀ z,z∈L↔Rea nx S z)∧Below w.heap.size w w':=by
 have hmm := @run_makeMap Tryz.prog
 have hR0:=RS.made w
 obtain ⟨W,hW⟩:∃ W,((w.alloc (.cells #[.slice none 0 0] 38)).alloc (.map #[] 0)).alloc (.cells #[.map (some (w.heap.size+1))] 169)=W:=⟨_,rfl⟩
 have hBW:Below w.heap.size w W:=by rw [←hW];go_grown
 rw [hW] at hR0
 rw [show w.heap.size+2=w.heap.size+1+1 from rfl] at hR0
 have hm1:=meet_any w (w.heap.size+1+1) w.heap.size (w.heap.size+1) N (.slice none 0 0) [] A c S W hN hSl hSi ⟨hR0,List.prefix_refl _,List.nodup_nil,fun z hz=>(by cases hz),fun z=>(by simp),hS.later hBW,fun a ha e=>(by cases e),hBW⟩
 have HMt:Hid (∀ v L A' c' T w',T.length≤3000→InN N T→RM w' w (w.heap.size+1+1) w.heap.size (w.heap.size+1) N L A' c' T 0 v L→Calls Tryz.prog 98 #[.slice A' T.length c',.pointer (some ⟨w.heap.size+1+1,0,none⟩),.pointer (some ⟨w.heap.size,0,none⟩)] w' fun e w''=>e=.returned (.tuple #[])∧∃ v' L',RM w'' w (w.heap.size+1+1) w.heap.size (w.heap.size+1) N L A' c' T T.length v' L'):=fun v L A' c' T w' h1 h2 h3=>meet_any w _ _ _ N v L A' c' T w' hN h1 h2 h3
 have HXi:=hid_of hxi
 have HXl:=hid_of hxl
 have HF:=hid_of hF
 have HN3:Hid (N≤3000):=hN
 obtain ⟨sl,hsl⟩:∃ sl,S.length=sl:=⟨_,rfl⟩
 have HSl:Hid (S.length=sl):=hsl
 rw [hsl] at hm1 ⊢
 have hem:=ent_meet
 clear hR0 hBW hF hxi hxl hS hSi hsl hSl
 go_enter Tryz.func57,Tryz.ntmps57
 go_wp2_with fail
 refine hm1.mono ?_
 rintro e w1 ⟨rfl,v1,L1,hR1⟩
 have HK1:Hid (∃ v L,RK w1 w (w.heap.size+1+1) w.heap.size (w.heap.size+1) N nx S 0 v L):=by
  obtain ⟨r1,r2,r3,r4,r5,r6,r7,r8⟩:=hR1
  refine ⟨v1,L1,r1,ReI.first r3 fun z=>?_,Nat.zero_le _,r4,r8⟩
  rw [r5 z,←HSl.out,List.take_length]
 clear hR1 hm1 hW
 go_wp2_with fail
 go_loopg [9] N (fun gg s9 wr => ∃ (k:Nat),k≤N∧gg=N-k∧s9=.int .i64 k∧Hid (∃ v L,RK wr w (w.heap.size+1+1) w.heap.size (w.heap.size+1) N nx S k v L))
 case atStart=>exact ⟨0,Nat.zero_le _,rfl,rfl,HK1⟩
 case round =>
  obtain ⟨k,hk,rfl,rfl,HK⟩:=hrel
  obtain ⟨v,L,hRK⟩:=HK.out
  have HR:=hid_of hRK
  obtain ⟨hRS,hRI,hkL,hin,hBw⟩:=hRK
  obtain ⟨c0,c1,f1,hbs,hbf⟩:=hRS.cells
  have hLN:=inN_few hin hRI.nd
  obtain ⟨AO,cO,hv⟩:∃ AO cO,v=.slice AO L.length cO:=by
   rcases hRS.own.2 with ⟨h1,h2⟩ | ⟨g,cap,cur,h1,-⟩
   ·exact ⟨none,0,by rw [h1,h2]⟩
   ·exact ⟨_,_,h1⟩
  subst hv
  obtain ⟨ln,hln⟩:∃ ln,L.length=ln:=⟨_,rfl⟩
  have HLn:Hid (L.length=ln):=hln
  rw [hln] at c1 hkL hLN
  have hlnI:(ln:Int)≤3000:=by omega
  by_cases hlt:k<ln
  ·have hki:(k:Int)<(ln:Int):=by omega
   have hkT:k<L.length:=by rw [HLn.out];exact hlt
   obtain ⟨y,hy,hyN⟩:=hin _ (getD_memI hkT)
   obtain ⟨A1,c1',e1,hI1⟩:=intT_own hRS.own
   cases e1
   obtain ⟨hcS,-,hS0 | ⟨bt,cs,fr,rfl,hbT,hcl⟩⟩:=hI1
   ·rw [hS0] at hkT;simp at hkT
   have cx:=hcl k hkT
   have hbt:bt<wr.heap.size:=(Array.getElem?_eq_some_iff.1 hbT).1
   rw [HLn.out] at hcS
   rw [hy] at cx
   have hcSI:(ln:Int)≤(cO:Int):=by omega
   have hf:=HF.out y wr hyN hBw
   have hxy:=HXl.out y hyN
   obtain ⟨T,hT⟩:∃ T,nx y=T:=⟨_,rfl⟩
   rw [hT] at hf hxy
   have HT:Hid (nx y=T):=hT
   have HNext:Hid (∀ A' c' w3,Below wr.heap.size wr w3→IntT w3 A' c' T→(∀ a,A'=some a→a.block<w.heap.size∨wr.heap.size≤a.block)→RM w3 w (w.heap.size+1+1) w.heap.size (w.heap.size+1) N L A' c' T 0 (.slice (some ⟨bt,0,none⟩) L.length cO) L):=fun A' c' w3 hb3 hI3 hA3=>by
    obtain ⟨g1,g2,g3,g4,g5⟩:=HR.out
    refine ⟨g1.later hb3,List.prefix_refl _,g2.nd,g4,fun z=>by simp,hI3,fun a ha e=>?_,onB g5 hb3⟩
    have h1:=own_blk g1.own e
    rcases hA3 a ha with h | h
    ·omega
    ·omega
   have HDone:Hid (∀ A' c' w4 v' L',RM w4 w (w.heap.size+1+1) w.heap.size (w.heap.size+1) N L A' c' T T.length v' L'→∃ v L,RK w4 w (w.heap.size+1+1) w.heap.size (w.heap.size+1) N nx S (k+1) v L):=fun A' c' w4 v' L' h=>by
    obtain ⟨r1,r2,r3,r4,r5,r6,r7,r8⟩:=h
    obtain ⟨g1,g2,g3,g4,g5⟩:=HR.out
    refine ⟨v',L',r1,g2.next hkT hy r2 r3 fun z=>?_,?_,r4,r8⟩
    ·rw [r5 z,List.take_length,HT.out]
    ·have:=r2.length_le
     omega
   have HTi:Hid (InN N T):=by rw [←hT];exact HXi.out y hyN
   obtain ⟨tl,htl⟩:∃ tl,T.length=tl:=⟨_,rfl⟩
   have HTl:Hid (T.length=tl):=htl
   rw [htl] at hf hxy
   have hty:(y:Int)<3000:=by have:=HN3.out;omega
   clear hRS hRI hin hBw hcl hbT hy hT htl f1
   go_wp2_with fail
   refine hf.mono ?_
   rintro e w3 ⟨⟨A',c',rfl,hI3,hA3⟩,hb3⟩
   have hmt:=HMt.out _ L A' c' T w3 (by rw [HTl.out];exact hxy) HTi.out (HNext.out A' c' w3 hb3 hI3 hA3)
   rw [HTl.out] at hmt
   clear hf hI3 hA3 hb3
   go_wp2_with fail
   refine hmt.mono ?_
   rintro e w4 ⟨rfl,v',L',hR4⟩
   have HK4:=hid_of (HDone.out A' c' w4 v' L' (by rw [HTl.out];exact hR4))
   clear hmt hR4
   go_wp2_with fail
   go_roundg (N-(k+1))
   case measure=>omega
   case rel=>exact ⟨k+1,by omega,rfl,by go_num,HK4⟩
  ·have hke:k=ln:=by omega
   subst hke
   have HAll:Hid (∀ z,z∈L↔Rea nx S z):=by
    have h:=hRI
    rw [←HLn.out] at h
    exact h.all
   have HLt:Hid ((L.mergeSort fun a b=>decide (a≤b)).Pairwise (· < ·)):=srt_lt hRI.nd
   have HMm:Hid (∀ z,z∈(L.mergeSort fun a b=>decide (a≤b))↔z∈L):=fun z=>(List.mergeSort_perm _ _).mem_iff
   have HLl:Hid ((L.mergeSort fun a b=>decide (a≤b)).length=k):=by show _=_;rw [List.length_mergeSort];exact HLn.out
   by_cases hz:Value.slice AO k cO=.slice none 0 0
   ·cases hz
    have hso:=Any.slices_Sort_int_none Tryz.lays189 none 0 wr
    have HZ0:Hid ((L.mergeSort fun a b=>decide (a≤b))=[]):=List.eq_nil_of_length_eq_zero HLl.out
    have HBw:Hid (Below w.heap.size w wr):=hBw
    clear hRS hRI hin hBw f1
    go_wp2_with fail
    refine Calls.mono hso ?_
    rintro e w4 ⟨rfl,rfl⟩
    go_wp2_with fail
    go_returns
    refine ⟨⟨_,L.mergeSort fun a b=>decide (a≤b),rfl,by rw [HZ0.out];exact World.ownsRow_nil _ _ _ _,HLt.out,fun z=>(HMm.out z).trans (HAll.out z)⟩,HBw.out⟩
   ·have hO:=hRS.own
    rw [HLn.out] at hO
    obtain ⟨gg,cc,hv2,hgb,hgl,hnc,hcm,-,hH⟩:=Lib.holds_of_ownsRow (enc:=Value.int .i64) (zs:=L) hO hz
    cases hv2
    have hso:=Any.slices_Sort_int Tryz.lays189 gg 0 cO L wr hH hgl (by have:=HLn.out;omega)
    rw [HLn.out] at hso
    obtain ⟨ys,hys⟩:∃ ys,(L.mergeSort fun x y=>decide (x≤y))=ys:=⟨_,rfl⟩
    rw [hys] at hso HLt HMm HLl
    have hne:w.heap.size≠gg:=fun e=>(hRS.ne.2.2.2 gg rfl).2.1 e.symm
    have HOs:Hid (∀ q2 os,(grow (putRow (Value.int .i64) (Sort.ahead wr q2) gg 0 ys.toArray) os).ownsRow w.heap.size 3 1 (.slice (some ⟨gg,0,none⟩) k cO) k (mapI ys)):=fun q2 os=>sorted_own hO HLl.out
    have HCs:Hid (∀ q2 os,(grow (putRow (Value.int .i64) (Sort.ahead wr q2) gg 0 ys.toArray) os).cell? ⟨w.heap.size,0,none⟩=some (.slice (some ⟨gg,0,none⟩) k cO)∧w.heap.size<(grow (putRow (Value.int .i64) (Sort.ahead wr q2) gg 0 ys.toArray) os).heap.size):=fun q2 os=>by
     have h:=(World.cell?_of_block (a:=⟨w.heap.size,0,none⟩) (sorted_off (w:=wr) (n:=q2) (d:=ys.toArray) (os:=os) hbf hne)).trans hRS.cells.2.1
     rw [HLn.out] at h
     exact ⟨h,(Array.getElem?_eq_some_iff.1 ((sorted_off (w:=wr) (n:=q2) (d:=ys.toArray) (os:=os) hbf hne).trans hRS.hF)).1⟩
    have HBs:Hid (∀ q2 os,Below w.heap.size w (grow (putRow (Value.int .i64) (Sort.ahead wr q2) gg 0 ys.toArray) os)):=fun q2 os=>sorted_belowI hBw hgb
    clear hRS hRI hin hBw hO hH hys f1
    go_wp2_with fail
    refine Calls.mono hso ?_
    rintro e w4 ⟨rfl,q2,os,hw4⟩
    have HO4:Hid (w4.ownsRow w.heap.size 3 1 (.slice (some ⟨gg,0,none⟩) k cO) k (mapI ys)):=by rw [hw4];exact HOs.out q2 os
    have HB4:Hid (Below w.heap.size w w4):=by rw [hw4];exact HBs.out q2 os
    have c4:w4.cell? ⟨w.heap.size,0,none⟩=some (.slice (some ⟨gg,0,none⟩) k cO):=by rw [hw4];exact (HCs.out q2 os).1
    have hs4:w.heap.size<w4.heap.size:=by rw [hw4];exact (HCs.out q2 os).2
    clear hw4 hso c0 c1
    go_wp2_with fail
    go_returns
    exact ⟨⟨_,ys,rfl,by rw [HLl.out];exact HO4.out,HLt.out,fun z=>(HMm.out z).trans (HAll.out z)⟩,HB4.out⟩
end Go.Proofs.YtfngmnhkhfgmjagGreatDoor
