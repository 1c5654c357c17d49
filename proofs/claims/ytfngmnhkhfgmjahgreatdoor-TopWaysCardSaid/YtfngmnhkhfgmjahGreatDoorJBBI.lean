/-
  What reach of package need answers, whatever tells what is next to a number: all that is reached, rising; in whatever memory.
-/
import Derived.Test.YtfngmnhkhfgmjahGreatDoorJBBE
namespace Go.Proofs.YtfngmnhkhfgmjahGreatDoor
open Go.ChangeShapes Go.WideShapes Go.ChangeAt Go.RowKit
set_option maxRecDepth 20000
def RM (w:World) (W0:World) (bS bF bM N:Nat) (L:List Int) (A:Option Addr) (c:Nat) (T:List Int) (k:Nat) (v:Value) (L':List Int):Prop:=RS w W0.heap.size bS bF bM v L'∧L <+: L'∧L'.Nodup∧InN N L'∧(∀ z,z∈L'↔z∈L∨z∈T.take k)∧IntT w A c T∧(∀ a,A=some a→v.ownBlock≠some a.block)∧Below W0.heap.size W0 w
section
variable {w W0:World} {bS bF bM N:Nat} {L:List Int} {A:Option Addr} {c:Nat} {T:List Int} {k:Nat} {v:Value} {L':List Int}
theorem RM.old (h:RM w W0 bS bF bM N L A c T k v L') (hk:k<T.length) (hx:T.getD k 0∈L') {wa:World} (hwa:Below w.heap.size w wa):RM wa W0 bS bF bM N L A c T (k+1) v L':=by
 obtain ⟨h1,h2,h3,h4,h5,h6,h7,h8⟩:=h
 refine ⟨h1.later hwa,h2,h3,h4,fun z=>?_,h6.later hwa,h7,onB h8 hwa⟩
 rw [h5 z,List.take_succ_eq_append_getElem hk,List.mem_append,List.mem_singleton]
 constructor
 ·intro h
  exact h.imp id Or.inl
 ·rintro (h | h | h)
  ·exact Or.inl h
  ·exact Or.inr h
  ·rw [List.getD_eq_getElem?_getD,List.getElem?_eq_getElem hk,Option.getD_some,←h] at hx
   exact (h5 z).1 hx
theorem RM.new (h:RM w W0 bS bF bM N L A c T k v L') (hk:k<T.length) {y:Nat} (hy:T.getD k 0=(y:Int)) (hyN:y<N) (hx:(y:Int)∉L') {wa w1 wb w2:World} {v':Value} (hwa:Below w.heap.size w wa) (hm1:w1.ownsMap Tryz.prog 3 (unitElem (H:=Unit)) bM (L'.length+1) ((SeD L').put (.int .i64 (y:Int)) (.agg []))) (hg1:wa.grownBy w1 (some bM)) (hwb:Below w1.heap.size w1 wb)
  (hO2:w2.ownsRow W0.heap.size 3 1 v' (L'.length+1) (mapI L' ++ [.int .i64 (y:Int)])) (hg2:wb.grownBy w2 v.ownBlock) (hat:v'.ownBlock=v.ownBlock∨v'.ownBlock=some wb.heap.size):w2.cell? ⟨bF,0,none⟩=some v∧w2.frozen? ⟨bF,0,none⟩=false∧bF<w2.heap.size∧RM (w2.setCell ⟨bF,0,none⟩ v') W0 bS bF bM N L A c T (k+1) v' (L' ++ [(y:Int)]):=by
 obtain ⟨h1,⟨M,rfl⟩,h3,h4,h5,h6,h7,h8⟩:=h
 obtain ⟨p1,p2,p3,p4⟩:=h1.push hwa hm1 hg1 hwb hO2 hg2
 obtain ⟨n1,n2,n3,n4⟩:=h1.ne
 have hb1:Below W0.heap.size W0 w1:=below_grownW (onB h8 hwa) hg1 fun b e=>by cases e;exact h1.lM
 have hb2:Below W0.heap.size W0 w2:=below_grownW (onB hb1 hwb) hg2 fun b e=>(own_blk h1.own e).1
 have keep:∀ a,A=some a→T≠[]→(w2.setCell ⟨bF,0,none⟩ v').heap[a.block]?=w.heap[a.block]?:=fun a ha hT=>by
  obtain ⟨-,-,h0 | ⟨b,cs,fr,h2,h3,-⟩⟩:=h6
  ·exact absurd h0 hT
  ·rw [ha] at h2
   cases h2
   have lt:=(Array.getElem?_eq_some_iff.1 h3).1
   have s1:=hwa.size
   have s2:=hg1.size
   have s3:=hwb.size
   have nF:b≠bF:=fun e=>by rw [e,h1.hF] at h3;simp at h3
   have nM:b≠bM:=fun e=>by obtain ⟨es,ck,hm⟩:=h1.map;rw [e,hm] at h3;simp at h3
   show (w2.setCell ⟨bF,0,none⟩ v').heap[b]?=w.heap[b]?
   rw [setCell_off _ _ _ _ _ nF]
   exact (((hg2.block b (by omega) fun e=>h7 _ ha e.symm).trans (hwb.block b (by omega))).trans (hg1.block b (by omega) (by simpa using nM))).trans (hwa.block b lt)
 have hT:T≠[]:=fun e=>by rw [e] at hk;simp at hk
 refine ⟨p1,p2,p3,p4,⟨M ++ [(y:Int)],by rw [List.append_assoc]⟩,?_,?_,fun z=>?_,h6.one fun a ha=>keep a ha hT,fun a ha e=>?_,hb2.setCell h1.lF _⟩
 ·rw [List.nodup_append]
  exact ⟨h3,by simp,fun a ha b hb e=>by simp at hb;subst hb;subst e;exact hx ha⟩
 ·intro z hz
  rcases List.mem_append.1 hz with h | h
  ·exact h4 z h
  ·exact ⟨y,by simpa using h,hyN⟩
 ·rw [List.mem_append,h5 z,List.take_succ_eq_append_getElem hk,List.mem_append,List.mem_singleton,List.mem_singleton]
  rw [List.getD_eq_getElem?_getD,List.getElem?_eq_getElem hk,Option.getD_some] at hy
  rw [hy]
  exact or_assoc
 ·rcases hat with h | h
  ·exact h7 a ha (h.symm.trans e)
  ·obtain ⟨-,-,h0 | ⟨b,cs,fr,h2,h3,-⟩⟩:=h6
   ·exact hT h0
   ·rw [ha] at h2
    cases h2
    have lt:=(Array.getElem?_eq_some_iff.1 h3).1
    have s1:=hwa.size
    have s2:=hg1.size
    have s3:=hwb.size
    rw [h] at e
    simp at e
    omega
end
theorem ent_meet (args:Array Value) (w:World):(callFunc 157 args).run Tryz.prog w=.ok (.enter 157 args) w:=by simp [go_sem]
set_option maxHeartbeats 8000000 in
theorem meet_any (W0:World) (bS bF bM N:Nat) (v:Value) (L:List Int) (A:Option Addr) (c:Nat) (T:List Int) (w:World) (hN:N≤3000) (hTl:T.length≤3000) (hTi:InN N T) (h0:RM w W0 bS bF bM N L A c T 0 v L) :
  Calls Tryz.prog 157 #[.slice A T.length c,.pointer (some ⟨bS,0,none⟩),.pointer (some ⟨bF,0,none⟩)] w fun e w'=>e=.returned (.tuple #[])∧∃ v' L',RM w' W0 bS bF bM N L A c T T.length v' L':=by
 obtain ⟨i0,hi0,hz0,hz1,hz2⟩:=info_parts Tryz.infoInt
 have HTi:Hid (InN N T):=hTi
 have HR0:Hid (RM w W0 bS bF bM N L A c T 0 v L):=h0
 obtain ⟨tl,htl⟩:∃ tl,T.length=tl:=⟨_,rfl⟩
 have HTl:Hid (T.length=tl):=htl
 rw [htl] at hTl ⊢
 have htI:(tl:Int)≤3000:=by omega
 clear h0 hTi htl
 go_enter Tryz.func157,Tryz.ntmps157
 go_wp2_with fail
 go_loopg [10] tl (fun gg s10 wr => ∃ (k:Nat),k≤tl∧gg=tl-k∧s10=.int .i64 k∧Hid (∃ v' L',RM wr W0 bS bF bM N L A c T k v' L'))
 case atStart=>exact ⟨0,Nat.zero_le _,rfl,rfl,⟨v,L,HR0.out⟩⟩
 case round =>
  obtain ⟨k,hk,rfl,rfl,HK⟩:=hrel
  by_cases hlt:k<tl
  ·have hki:(k:Int)<(tl:Int):=by omega
   have hkT:k<T.length:=by rw [HTl.out];exact hlt
   obtain ⟨v1,L1,hR⟩:=HK.out
   have HR:Hid (RM wr W0 bS bF bM N L A c T k v1 L1):=hR
   obtain ⟨y,hy,hyN⟩:=HTi.out _ (getD_memI hkT)
   obtain ⟨hS,-,hnd,hin,-,hcT,-,hBw⟩:=hR
   obtain ⟨c0,c1,f1,hbs,hbf⟩:=hS.cells
   obtain ⟨hcS,-,hS0 | ⟨bt,cs,fr,rfl,hbT,hcl⟩⟩:=hcT
   ·rw [hS0] at hkT;simp at hkT
   have cx:=hcl k hkT
   have hbt:bt<wr.heap.size:=(Array.getElem?_eq_some_iff.1 hbT).1
   rw [HTl.out] at hcS
   rw [hy] at cx
   have hcSI:(tl:Int)≤(c:Int):=by omega
   have hyI:(y:Int)<3000:=by omega
   have hl1:=inN_few hin hnd
   have hown:=hS.hM
   have hkey:keyOf Tryz.prog 3 (.int .i64 (y:Int))=some (.int .i64 (y:Int)):=Maps.keyOf_int_mk Tryz.underlying3 (WalkArith.wf_i64 (by omega))
   have hhas:=has_SeD L1 (y:Int)
   obtain ⟨AO,cO,hv⟩:∃ AO cO,v1=.slice AO L1.length cO:=by
    rcases hS.own.2 with ⟨h1,h2⟩ | ⟨g,cap,cur,h1,-⟩
    ·exact ⟨none,0,by rw [h1,h2]⟩
    ·exact ⟨_,_,h1⟩
   have hBs:W0.heap.size≤wr.heap.size:=hBw.size
   have HY:Hid (T.getD k 0=(y:Int)):=hy
   by_cases hx:(y:Int)∈L1
   ·have hh:Maps.has (SeD L1) (.int .i64 (y:Int))=true:=by rw [hhas];exact List.contains_iff_mem.2 hx
    have HF:Hid (∀ wa,Below wr.heap.size wr wa→RM wa W0 bS bF bM N L (some ⟨bt,0,none⟩) c T (k+1) v1 L1):=fun wa hwa=>HR.out.old hkT (by rw [HY.out];exact hx) hwa
    clear hS hnd hin hcl hbT hhas hy hBw hv hx
    go_wp2_with (at_lookup;refine wpList_lookup_own_unit _ rfl _ _ 232 rfl 3 233 keyd_int Tryz.underlying232 (zero_unit _) bM _ _ rfl hown _ _ rfl hkey ?_)
    go_roundg (tl-(k+1))
    case measure=>omega
    case rel=>exact ⟨k+1,by omega,rfl,by go_num,⟨v1,L1,HF.out _ (by go_grown)⟩⟩
   ·have hh:Maps.has (SeD L1) (.int .i64 (y:Int))=false:=by rw [hhas];exact Bool.eq_false_iff.2 fun h=>hx (List.contains_iff_mem.1 h)
    subst hv
    have HMid:Hid (∀ wa w1,Below wr.heap.size wr wa→wa.grownBy w1 (some bM)→w1.cell? ⟨bF,0,none⟩=some (.slice AO L1.length cO)∧w1.ownsRow W0.heap.size 3 1 (.slice AO L1.length cO) L1.length (mapI L1)∧bF<w1.heap.size∧W0.heap.size≤w1.heap.size):=fun wa w1 hwa hg1=>by
     obtain ⟨-,m2,m3⟩:=HR.out.1.mid hwa hg1
     have s1:=hwa.size
     have s2:=hg1.size
     have s3:=HR.out.2.2.2.2.2.2.2.size
     have s4:=HR.out.1.cells.2.2.2.2
     exact ⟨(World.cell?_of_block (a:=⟨bF,0,none⟩) m2).trans HR.out.1.cells.2.1,m3,by omega,by omega⟩
    have HNew:=hid_of (fun wa w1 wb w2 v'=>HR.out.new hkT HY.out hyN hx (wa:=wa) (w1:=w1) (wb:=wb) (w2:=w2) (v':=v'))
    have hown2:=hown.alloc (.cells #[] 233)
    obtain ⟨ln,hln⟩:∃ ln,L1.length=ln:=⟨_,rfl⟩
    rw [hln] at hown hown2 c1 HMid HNew hl1
    have hlnI:ln≤3000:=by omega
    clear hS hnd hin hcl hbT hhas hy hBw hx hln
    go_wp2_with (first
     | (at_lookup;refine wpList_lookup_own_unit _ rfl _ _ 232 rfl 3 233 keyd_int Tryz.underlying232 (zero_unit _) bM _ _ rfl hown _ _ rfl hkey ?_)
     | (at_mapUpdate;refine wpList_mapUpdate_own _ rfl _ _ _ 232 rfl 3 233 keyd_int Tryz.underlying232 (unitElem (H:=Unit)) bM ln _ rfl hown2 (by unfold maxLen;omega) _ _ _ rfl rfl hkey _ [] unitElem_mk ?_))
    intro w1 hm1 hg1
    obtain ⟨x1,x2,x3,x4⟩:=HMid.out _ _ (by go_grown) hg1
    have HO1:Hid (w1.ownsRow W0.heap.size 3 1 (.slice AO ln cO) ln (mapI L1)):=x2
    have HG1:=hid_of hg1
    have HM1:=hid_of hm1
    clear x2 hg1 hm1 hown hown2 c0 c1 f1
    go_wp2_with (at_builtin;refine wpList_append_own_at _ rfl _ _ 22 rfl W0.heap.size 3 i0 (.int .i64 0) 1 8 Tryz.underlying22 hi0 hz0 hz1 hz2 rfl (by decide) _ _ _ rfl (HO1.out.alloc _) ⟨w1.heap.size,0,none⟩ 1 1 [.int .i64 y] rfl rfl one_cell one_one (by unfold maxLen;omega) (by omega) (by simp;omega) ?_)
    intro v' w2 hown' hgrow _ hat
    obtain ⟨A',c',rfl⟩:∃ A' c',v'=.slice A' (ln+1) c':=by
     rcases hown'.2 with ⟨-,h⟩ | ⟨g',c',cur,h,-⟩
     ·omega
     ·exact ⟨_,_,h⟩
    obtain ⟨y1,y2,y3,hRM⟩:=HNew.out _ _ _ _ _ (by go_grown) HM1.out HG1.out (by go_grown) hown' hgrow (hat.imp id fun h=>by rw [h];simp)
    have HF:=hid_of hRM
    clear hown' hgrow hat hRM x1 x3 x4
    go_wp2_with fail
    go_roundg (tl-(k+1))
    case measure=>omega
    case rel=>exact ⟨k+1,by omega,rfl,by go_num,⟨_,_,HF.out⟩⟩
  ·have hke:k=tl:=by omega
   subst hke
   go_wp2_with fail
   first | go_end0 | refine bodyPost_ret (results_none rfl _ _ _) rfl ?_
   exact ⟨rfl,HK.out⟩
end Go.Proofs.YtfngmnhkhfgmjahGreatDoor
namespace Go.Proofs.YtfngmnhkhfgmjahGreatDoor
open Go.ChangeShapes Go.WideShapes Go.ChangeAt Go.RowKit
open Go.Sort (putRow Holds grow holds_putRow)
set_option maxRecDepth 20000
theorem grow_later (w:World) (os:Array Obj):Below w.heap.size w (grow w os):=⟨rfl,rfl,rfl,by simp,fun k hk=>Sort.heap_grow_old _ _ hk⟩
theorem sorted_own {w:World} {base g n cap q:Nat} {zs ys:List Int} {os:Array Obj} (h:w.ownsRow base 3 1 (.slice (some ⟨g,0,none⟩) n cap) n (mapI zs)) (hy:ys.length=n):(grow (putRow (Value.int .i64) (Sort.ahead w q) g 0 ys.toArray) os).ownsRow base 3 1 (.slice (some ⟨g,0,none⟩) n cap) n (mapI ys):=by
 have h1:=Lib.ownsRow_putRow (enc:=Value.int .i64) (q:=q) (zs:=zs) (ys:=ys) (k:=n) h hy (Nat.le_refl _)
 rw [List.take_of_length_le (by omega)] at h1
 exact own_later h1 (grow_later _ _)
theorem sorted_off {w:World} {g n b:Nat} {d:Array Int} {os:Array Obj} (hb:b<w.heap.size) (hg:b≠g):(grow (putRow (Value.int .i64) (Sort.ahead w n) g 0 d) os).heap[b]?=w.heap[b]?:=by
 rw [Sort.heap_grow_old _ _ (by simpa using hb),put_offI hg]
 rfl
theorem srt_lt {L:List Int} (h:L.Nodup):(L.mergeSort fun a b=>decide (a≤b)).Pairwise (· < ·):=by
 have hnd:List.Pairwise (fun a b=>a≠b) (L.mergeSort fun a b=>decide (a≤b)):=(List.mergeSort_perm _ _).symm.pairwise h fun {a b} h e=>h e.symm
 exact ((srt_ints _).and hnd).imp fun h=>by omega
def RK (w:World) (W0:World) (bS bF bM N:Nat) (nx:Nat→List Int) (S:List Int) (k:Nat) (v:Value) (L:List Int):Prop:=RS w W0.heap.size bS bF bM v L∧ReI nx S L k∧k≤L.length∧InN N L∧Below W0.heap.size W0 w
set_option maxHeartbeats 16000000 in
theorem nreach_any (F:Nat) (fa cp:Array Value) (nx:Nat→List Int) (N:Nat) (hent:∀ (args:Array Value) (w:World),(callFunc F args).run Tryz.prog w=.ok (.enter F args) w) (A:Option Addr) (c:Nat) (S:List Int) (w:World) (hN:N≤3000) (hSl:S.length≤3000) (hS:IntT w A c S) (hSi:InN N S) (hxi:∀ y,y<N→InN N (nx y)) (hxl:∀ y,y<N→(nx y).length≤3000)
  (hF:∀ (y:Nat) (w':World),y<N→Below w.heap.size w w'→Calls Tryz.prog F (fa ++ #[.int .i64 y] ++ cp) w' fun e w''=>(∃ A' c',e=.returned (.tuple #[.slice A' (nx y).length c',.nilIface])∧IntT w'' A' c' (nx y)∧∀ a,A'=some a→a.block<w.heap.size∨w'.heap.size≤a.block)∧Below w'.heap.size w' w'') :
  Calls Tryz.prog 112 #[.slice A S.length c,.func (.func F) fa cp] w fun e w'=>(∃ v L,e=.returned (.tuple #[v,.nilIface])∧w'.ownsRow w.heap.size 3 1 v L.length (mapI L)∧L.Pairwise (· < ·)∧∀ z,z∈L↔Rea nx S z)∧Below w.heap.size w w':=by
 have hmm := @run_makeMap Tryz.prog
 have hR0:=RS.made w
 obtain ⟨W,hW⟩:∃ W,((w.alloc (.cells #[.slice none 0 0] 22)).alloc (.map #[] 0)).alloc (.cells #[.map (some (w.heap.size+1))] 232)=W:=⟨_,rfl⟩
 have hBW:Below w.heap.size w W:=by rw [←hW];go_grown
 rw [hW] at hR0
 rw [show w.heap.size+2=w.heap.size+1+1 from rfl] at hR0
 have hm1:=meet_any w (w.heap.size+1+1) w.heap.size (w.heap.size+1) N (.slice none 0 0) [] A c S W hN hSl hSi ⟨hR0,List.prefix_refl _,List.nodup_nil,fun z hz=>(by cases hz),fun z=>(by simp),hS.later hBW,fun a ha e=>(by cases e),hBW⟩
 have HMt:Hid (∀ v L A' c' T w',T.length≤3000→InN N T→RM w' w (w.heap.size+1+1) w.heap.size (w.heap.size+1) N L A' c' T 0 v L→Calls Tryz.prog 157 #[.slice A' T.length c',.pointer (some ⟨w.heap.size+1+1,0,none⟩),.pointer (some ⟨w.heap.size,0,none⟩)] w' fun e w''=>e=.returned (.tuple #[])∧∃ v' L',RM w'' w (w.heap.size+1+1) w.heap.size (w.heap.size+1) N L A' c' T T.length v' L'):=fun v L A' c' T w' h1 h2 h3=>meet_any w _ _ _ N v L A' c' T w' hN h1 h2 h3
 have HXi:=hid_of hxi
 have HXl:=hid_of hxl
 have HF:=hid_of hF
 have HN3:Hid (N≤3000):=hN
 obtain ⟨sl,hsl⟩:∃ sl,S.length=sl:=⟨_,rfl⟩
 have HSl:Hid (S.length=sl):=hsl
 rw [hsl] at hm1 ⊢
 have hem:=ent_meet
 clear hR0 hBW hF hxi hxl hS hSi hsl hSl
 go_enter Tryz.func112,Tryz.ntmps112
 go_wp2_with fail
 refine hm1.mono ?_
 rintro e w1 ⟨rfl,v1,L1,hR1⟩
 have HK1:Hid (∃ v L,RK w1 w (w.heap.size+1+1) w.heap.size (w.heap.size+1) N nx S 0 v L):=by
  obtain ⟨r1,r2,r3,r4,r5,r6,r7,r8⟩:=hR1
  refine ⟨v1,L1,r1,ReI.first r3 fun z=>?_,Nat.zero_le _,r4,r8⟩
  rw [r5 z,←HSl.out,List.take_length]
 clear hR1 hm1 hW
 go_wp2_with fail
 go_loopg [9] N (fun gg s9 wr => ∃ (k:Nat),k≤N∧gg=N-k∧s9=.int .i64 k∧Hid (∃ v L,RK wr w (w.heap.size+1+1) w.heap.size (w.heap.size+1) N nx S k v L))
 case atStart=>exact ⟨0,Nat.zero_le _,rfl,rfl,HK1⟩
 case round =>
  obtain ⟨k,hk,rfl,rfl,HK⟩:=hrel
  obtain ⟨v,L,hRK⟩:=HK.out
  have HR:=hid_of hRK
  obtain ⟨hRS,hRI,hkL,hin,hBw⟩:=hRK
  obtain ⟨c0,c1,f1,hbs,hbf⟩:=hRS.cells
  have hLN:=inN_few hin hRI.nd
  obtain ⟨AO,cO,hv⟩:∃ AO cO,v=.slice AO L.length cO:=by
   rcases hRS.own.2 with ⟨h1,h2⟩ | ⟨g,cap,cur,h1,-⟩
   ·exact ⟨none,0,by rw [h1,h2]⟩
   ·exact ⟨_,_,h1⟩
  subst hv
  obtain ⟨ln,hln⟩:∃ ln,L.length=ln:=⟨_,rfl⟩
  have HLn:Hid (L.length=ln):=hln
  rw [hln] at c1 hkL hLN
  have hlnI:(ln:Int)≤3000:=by omega
  by_cases hlt:k<ln
  ·have hki:(k:Int)<(ln:Int):=by omega
   have hkT:k<L.length:=by rw [HLn.out];exact hlt
   obtain ⟨y,hy,hyN⟩:=hin _ (getD_memI hkT)
   obtain ⟨A1,c1',e1,hI1⟩:=intT_own hRS.own
   cases e1
   obtain ⟨hcS,-,hS0 | ⟨bt,cs,fr,rfl,hbT,hcl⟩⟩:=hI1
   ·rw [hS0] at hkT;simp at hkT
   have cx:=hcl k hkT
   have hbt:bt<wr.heap.size:=(Array.getElem?_eq_some_iff.1 hbT).1
   rw [HLn.out] at hcS
   rw [hy] at cx
   have hcSI:(ln:Int)≤(cO:Int):=by omega
   have hf:=HF.out y wr hyN hBw
   have hxy:=HXl.out y hyN
   obtain ⟨T,hT⟩:∃ T,nx y=T:=⟨_,rfl⟩
   rw [hT] at hf hxy
   have HT:Hid (nx y=T):=hT
   have HNext:Hid (∀ A' c' w3,Below wr.heap.size wr w3→IntT w3 A' c' T→(∀ a,A'=some a→a.block<w.heap.size∨wr.heap.size≤a.block)→RM w3 w (w.heap.size+1+1) w.heap.size (w.heap.size+1) N L A' c' T 0 (.slice (some ⟨bt,0,none⟩) L.length cO) L):=fun A' c' w3 hb3 hI3 hA3=>by
    obtain ⟨g1,g2,g3,g4,g5⟩:=HR.out
    refine ⟨g1.later hb3,List.prefix_refl _,g2.nd,g4,fun z=>by simp,hI3,fun a ha e=>?_,onB g5 hb3⟩
    have h1:=own_blk g1.own e
    rcases hA3 a ha with h | h
    ·omega
    ·omega
   have HDone:Hid (∀ A' c' w4 v' L',RM w4 w (w.heap.size+1+1) w.heap.size (w.heap.size+1) N L A' c' T T.length v' L'→∃ v L,RK w4 w (w.heap.size+1+1) w.heap.size (w.heap.size+1) N nx S (k+1) v L):=fun A' c' w4 v' L' h=>by
    obtain ⟨r1,r2,r3,r4,r5,r6,r7,r8⟩:=h
    obtain ⟨g1,g2,g3,g4,g5⟩:=HR.out
    refine ⟨v',L',r1,g2.next hkT hy r2 r3 fun z=>?_,?_,r4,r8⟩
    ·rw [r5 z,List.take_length,HT.out]
    ·have:=r2.length_le
     omega
   have HTi:Hid (InN N T):=by rw [←hT];exact HXi.out y hyN
   obtain ⟨tl,htl⟩:∃ tl,T.length=tl:=⟨_,rfl⟩
   have HTl:Hid (T.length=tl):=htl
   rw [htl] at hf hxy
   have hty:(y:Int)<3000:=by have:=HN3.out;omega
   clear hRS hRI hin hBw hcl hbT hy hT htl f1
   go_wp2_with fail
   refine hf.mono ?_
   rintro e w3 ⟨⟨A',c',rfl,hI3,hA3⟩,hb3⟩
   have hmt:=HMt.out _ L A' c' T w3 (by rw [HTl.out];exact hxy) HTi.out (HNext.out A' c' w3 hb3 hI3 hA3)
   rw [HTl.out] at hmt
   clear hf hI3 hA3 hb3
   go_wp2_with fail
   refine hmt.mono ?_
   rintro e w4 ⟨rfl,v',L',hR4⟩
   have HK4:=hid_of (HDone.out A' c' w4 v' L' (by rw [HTl.out];exact hR4))
   clear hmt hR4
   go_wp2_with fail
   go_roundg (N-(k+1))
   case measure=>omega
   case rel=>exact ⟨k+1,by omega,rfl,by go_num,HK4⟩
  ·have hke:k=ln:=by omega
   subst hke
   have HAll:Hid (∀ z,z∈L↔Rea nx S z):=by
    have h:=hRI
    rw [←HLn.out] at h
    exact h.all
   have HLt:Hid ((L.mergeSort fun a b=>decide (a≤b)).Pairwise (· < ·)):=srt_lt hRI.nd
   have HMm:Hid (∀ z,z∈(L.mergeSort fun a b=>decide (a≤b))↔z∈L):=fun z=>(List.mergeSort_perm _ _).mem_iff
   have HLl:Hid ((L.mergeSort fun a b=>decide (a≤b)).length=k):=by show _=_;rw [List.length_mergeSort];exact HLn.out
   by_cases hz:Value.slice AO k cO=.slice none 0 0
   ·cases hz
    have hso:=Any.slices_Sort_int_none Tryz.lays189 none 0 wr
    have HZ0:Hid ((L.mergeSort fun a b=>decide (a≤b))=[]):=List.eq_nil_of_length_eq_zero HLl.out
    have HBw:Hid (Below w.heap.size w wr):=hBw
    clear hRS hRI hin hBw f1
    go_wp2_with fail
    refine Calls.mono hso ?_
    rintro e w4 ⟨rfl,rfl⟩
    go_wp2_with fail
    go_returns
    refine ⟨⟨_,L.mergeSort fun a b=>decide (a≤b),rfl,by rw [HZ0.out];exact World.ownsRow_nil _ _ _ _,HLt.out,fun z=>(HMm.out z).trans (HAll.out z)⟩,HBw.out⟩
   ·have hO:=hRS.own
    rw [HLn.out] at hO
    obtain ⟨gg,cc,hv2,hgb,hgl,hnc,hcm,-,hH⟩:=Lib.holds_of_ownsRow (enc:=Value.int .i64) (zs:=L) hO hz
    cases hv2
    have hso:=Any.slices_Sort_int Tryz.lays189 gg 0 cO L wr hH hgl (by have:=HLn.out;omega)
    rw [HLn.out] at hso
    obtain ⟨ys,hys⟩:∃ ys,(L.mergeSort fun x y=>decide (x≤y))=ys:=⟨_,rfl⟩
    rw [hys] at hso HLt HMm HLl
    have hne:w.heap.size≠gg:=fun e=>(hRS.ne.2.2.2 gg rfl).2.1 e.symm
    have HOs:Hid (∀ q2 os,(grow (putRow (Value.int .i64) (Sort.ahead wr q2) gg 0 ys.toArray) os).ownsRow w.heap.size 3 1 (.slice (some ⟨gg,0,none⟩) k cO) k (mapI ys)):=fun q2 os=>sorted_own hO HLl.out
    have HCs:Hid (∀ q2 os,(grow (putRow (Value.int .i64) (Sort.ahead wr q2) gg 0 ys.toArray) os).cell? ⟨w.heap.size,0,none⟩=some (.slice (some ⟨gg,0,none⟩) k cO)∧w.heap.size<(grow (putRow (Value.int .i64) (Sort.ahead wr q2) gg 0 ys.toArray) os).heap.size):=fun q2 os=>by
     have h:=(World.cell?_of_block (a:=⟨w.heap.size,0,none⟩) (sorted_off (w:=wr) (n:=q2) (d:=ys.toArray) (os:=os) hbf hne)).trans hRS.cells.2.1
     rw [HLn.out] at h
     exact ⟨h,(Array.getElem?_eq_some_iff.1 ((sorted_off (w:=wr) (n:=q2) (d:=ys.toArray) (os:=os) hbf hne).trans hRS.hF)).1⟩
    have HBs:Hid (∀ q2 os,Below w.heap.size w (grow (putRow (Value.int .i64) (Sort.ahead wr q2) gg 0 ys.toArray) os)):=fun q2 os=>sorted_belowI hBw hgb
    clear hRS hRI hin hBw hO hH hys f1
    go_wp2_with fail
    refine Calls.mono hso ?_
    rintro e w4 ⟨rfl,q2,os,hw4⟩
    have HO4:Hid (w4.ownsRow w.heap.size 3 1 (.slice (some ⟨gg,0,none⟩) k cO) k (mapI ys)):=by rw [hw4];exact HOs.out q2 os
    have HB4:Hid (Below w.heap.size w w4):=by rw [hw4];exact HBs.out q2 os
    have c4:w4.cell? ⟨w.heap.size,0,none⟩=some (.slice (some ⟨gg,0,none⟩) k cO):=by rw [hw4];exact (HCs.out q2 os).1
    have hs4:w.heap.size<w4.heap.size:=by rw [hw4];exact (HCs.out q2 os).2
    clear hw4 hso c0 c1
    go_wp2_with fail
    go_returns
    exact ⟨⟨_,ys,rfl,by rw [HLl.out];exact HO4.out,HLt.out,fun z=>(HMm.out z).trans (HAll.out z)⟩,HB4.out⟩
end Go.Proofs.YtfngmnhkhfgmjahGreatDoor
