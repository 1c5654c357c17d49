/-
  What strings.SplitN answers of a text at a blank, of five pieces at the most; what a place's word may be; in whatever memory.
-/
import Derived.Test.YtpoklbfffgpbiaaGreatDoorShelfS
import Derived.Shelf.Strings.Search3
import Derived.Test.YtpoklbfffgpbiaaGreatDoorJYAT
import Derived.Test.YtpoklbfffgpbiaaGreatDoorJYAV
namespace Go.Proofs.YtpoklbfffgpbiaaGreatDoor
open Go Go.ChangeShapes Go.WideShapes Go.ChangeAt Go.RowKit
set_option maxRecDepth 20000
theorem pcs_one {c:UInt8} {x:ByteArray} (h:Lib.indexByte x.data.toList c = -1):piecesC c x=[x]:=by
 unfold piecesC
 rw [cut_miss h,List.map_singleton,byte_ext rfl]
theorem pcs_more {c:UInt8} {x:ByteArray} {i:Nat} (h:Lib.indexByte x.data.toList c=i):i+1≤x.size∧piecesC c x=x.extract 0 i :: piecesC c (x.extract (i+1) x.size):=by
 obtain ⟨h1,h2⟩:=cut_hit h
 have hsz:x.data.toList.length=x.size:=by simp
 refine ⟨by omega,?_⟩
 unfold piecesC
 rw [h2,List.map_cons,byte_ext (Lib.extract_from_zero x i),Lib.extract_to_end]
def FewW (P W:List ByteArray):Prop:=1≤W.length∧W.length≤5∧(P.length≤4→W=P)∧(5≤P.length→W.length=5)
theorem few_last {P done:List ByteArray} {rest:ByteArray} {N:Nat} (h:done ++ piecesC 32 rest=P) (hd:done.length+1=N) (hN:N=5∨P.length≤N) (hN5:N≤5):FewW P (done ++ [rest]):=by
 have hp:=piecesC_pos 32 rest
 have hl:P.length=done.length+(piecesC 32 rest).length:=by rw [←h,List.length_append]
 refine ⟨by simp,by simp;omega,fun h4=>?_,fun h5=>by simp;omega⟩
 have h1:(piecesC 32 rest).length=1:=by omega
 have h2:=Lib.indexByte_ge rest.data.toList 32
 by_cases h3:Lib.indexByte rest.data.toList 32 = -1
 ·rw [←h,pcs_one h3]
 ·obtain ⟨i,hi⟩:∃ i:Nat,Lib.indexByte rest.data.toList 32=i:=⟨(Lib.indexByte rest.data.toList 32).toNat,by omega⟩
  have h5:=(pcs_more hi).2
  have h6:=piecesC_pos 32 (rest.extract (i+1) rest.size)
  rw [h5,List.length_cons] at h1
  omega
theorem few_one {P done:List ByteArray} {rest:ByteArray} {N:Nat} (h:done ++ piecesC 32 rest=P) (hm:Lib.indexByte rest.data.toList 32 = -1) (hd:done.length+1≤N) (hN5:N≤5):FewW P (done ++ [rest]):=by
 rw [pcs_one hm] at h
 rw [h]
 have hl:P.length=done.length+1:=by rw [←h];simp
 exact ⟨by omega,by omega,fun _=>rfl,fun _=>by omega⟩
set_option maxHeartbeats 4000000 in
theorem sgsplit_any (s:ByteArray) (w:World) (hs:s.size≤4611686018427387904):Calls Tryz.prog 55 #[.string s,.string ⟨#[32]⟩,.int .i64 0,.int .i64 5] w fun e w' => ∃ W N,e=.returned (.slice (some ⟨w.heap.size,0,none⟩) W.length N)∧w'=w.alloc (.cells (Lib.cellsOf W N) 9)∧W.length≤N∧FewW (piecesC 32 s) W:=by
 have hix:∀ (t:ByteArray) (w:World),Calls Tryz.prog 71 #[.string t,.string ⟨#[32]⟩] w fun e w'=>e=.returned (.int .i64 (Lib.indexByte t.data.toList 32))∧w'=w:=fun t w=>Any.strings_Index_one Tryz.lays143 t 32 w
 have hple:=piecesC_le 32 s
 obtain ⟨N,hn⟩:∃ N,min 5 (s.size+1)=N:=⟨_,rfl⟩
 have hN5:N≤5:=by omega
 have hN1:1≤N:=by omega
 have HNs:Hid (N=5∨(piecesC 32 s).length≤N):=by show _∨_;omega
 have hmk:=run_make_row' (P:=Tryz.prog) 78 9 (.string ByteArray.empty) 16 Tryz.underlying78 Tryz.infoStr rfl .i64 .i64 N (by omega) (by omega)
 have hsz:(s.size:Int)≤4611686018427387904:=by omega
 have hN4:(N:Int)≤5:=by omega
 have hNi:(1:Int)≤(N:Int):=by omega
 have hmn:min (5:Int) ((s.size:Int)+1)=(N:Int):=by omega
 have HIX:=hid_of hix
 clear hn hple hix
 go_enter Tryz.func55,Tryz.ntmps55
 go_wp2_with fail
 clear hmk hmn
 go_loopg [0,10,11] (N-1) (fun g s0 s10 s11 wr => ∃ (done:List ByteArray) (rest:ByteArray),s0=.string rest∧s10=.int .i64 done.length∧done.length≤N-1∧g=N-1-done.length∧rest.size≤s.size∧wr=w.alloc (.cells (Lib.cellsOf done N) 9)∧done ++ piecesC 32 rest=piecesC 32 s)
 case atStart=>exact ⟨[],s,rfl,rfl,Nat.zero_le _,rfl,Nat.le_refl _,by rw [Lib.cellsOf_nil],rfl⟩
 case round =>
  obtain ⟨done,rest,rfl,rfl,hd,rfl,hrs,rfl,hsp⟩:=hrel
  have hnext:(Lib.cellsOf done N)[done.length]?=some (.string ByteArray.empty):=Lib.cellsOf_next (by omega)
  have HS:Hid (done ++ piecesC 32 rest=piecesC 32 s):=hsp
  have hx:=fun w=>HIX.out rest w
  have HD1:Hid (done.length+1≤N):=by show _≤_;omega
  have hw1:(done.length:Int)+1≤(N:Int):=by omega
  have HF:Hid ((Lib.cellsOf done N).setIfInBounds done.length (.string rest)=Lib.cellsOf (done ++ [rest]) N):=by
   show _=_
   rw [Lib.cellsOf_set (by omega)]
  clear hsp
  by_cases hlt:done.length<N-1
  ·have hltz:((done.length:Nat):Int)<(N:Int)-1:=by omega
   have hge:=Lib.indexByte_ge rest.data.toList 32
   by_cases hm:Lib.indexByte rest.data.toList 32 = -1
   ·have HM:=hid_of hm
    rw [hm] at hx
    clear hge hm
    go_wp2_with fail
    refine (hx _).mono ?_
    rintro e w2 ⟨rfl,rfl⟩
    go_wp2_with fail
    go_ret
    refine ⟨done ++ [rest],N,?_,?_,?_,few_one HS.out HM.out HD1.out hN5⟩
    ·simp only [List.length_append,List.length_singleton];rfl
    ·rw [←HF.out]
    ·simpa using HD1.out
   ·obtain ⟨i,hi⟩:∃ i:Nat,Lib.indexByte rest.data.toList 32=i:=⟨(Lib.indexByte rest.data.toList 32).toNat,by omega⟩
    obtain ⟨hroom,hpc⟩:=pcs_more hi
    rw [hi] at hx
    have HP:Hid (piecesC 32 rest=rest.extract 0 i :: piecesC 32 (rest.extract (i+1) rest.size)):=hpc
    have c0 : ¬ ((i:Int)<0):=by omega
    have c2:(i:Int)≤(rest.size:Int):=by omega
    have c4:(i:Int)+1≤(rest.size:Int):=by omega
    have c5:(rest.size:Int)≤4611686018427387904:=by omega
    clear hpc hi hm hge
    go_wp2_with fail
    refine (hx _).mono ?_
    rintro e w2 ⟨rfl,rfl⟩
    go_wp2_with fail
    go_roundg (N-1-(done.length+1))
    case measure=>omega
    case rel =>
     refine ⟨done ++ [rest.extract 0 i],rest.extract (i+1) rest.size,rfl,by simp,by simp;omega,by simp,by rw [ByteArray.size_extract];omega,by rw [←Lib.cellsOf_set (by omega)],?_⟩
     rw [←HS.out,HP.out]
     simp
  ·have hltz : ¬ (((done.length:Nat):Int)<(N:Int)-1):=by omega
   have hdn:done.length+1=N:=by omega
   have HDN:=hid_of hdn
   clear hx
   go_wp2_with fail
   go_ret
   refine ⟨done ++ [rest],N,?_,?_,?_,few_last HS.out HDN.out HNs.out hN5⟩
   ·rw [List.length_append,List.length_singleton,HDN.out];rfl
   ·rw [←HF.out]
   ·simpa using HD1.out
theorem ssplit_any (s:ByteArray) (w:World) (hs:s.size≤4611686018427387904):Calls Tryz.prog 34 #[.string s,.string ⟨#[32]⟩,.int .i64 5] w fun e w' => ∃ W N,e=.returned (.slice (some ⟨w.heap.size,0,none⟩) W.length N)∧w'=w.alloc (.cells (Lib.cellsOf W N) 9)∧W.length≤N∧FewW (piecesC 32 s) W:=by
 have h:=sgsplit_any s w hs
 generalize piecesC 32 s=P at h
 clear hs
 go_enter Tryz.func34,Tryz.ntmps34
 go_wp2_with fail
 refine h.mono ?_
 rintro e w1 ⟨W,N,rfl,rfl,h1,h2⟩
 have H2:=hid_of h2
 have H1:=hid_of h1
 obtain ⟨cs,hcs⟩:∃ cs,Lib.cellsOf W N=cs:=⟨_,rfl⟩
 obtain ⟨L,hL⟩:∃ L,W.length=L:=⟨_,rfl⟩
 have HC:=hid_of hcs
 have HL:=hid_of hL
 rw [hcs,hL]
 clear h2 h1 hcs hL
 go_wp2_with fail
 go_ret
 exact ⟨W,N,by rw [HL.out];rfl,by rw [HC.out],H1.out,H2.out⟩
theorem any_61:∀ l:List UInt8,(cutB 46 l).any (fun p=>p.any badW)=l.contains 61
 | []=>rfl
 | x :: t=>by
  have ih:=any_61 t
  rw [List.contains_cons,←ih,cutB]
  by_cases hx:x=46
  ·subst hx
   rw [if_pos rfl]
   rfl
  ·rw [if_neg hx]
   have hb:badW x=((61:UInt8) == x):=by
    unfold badW
    rw [show (x == 46)=false by simpa using hx,Bool.or_false,Bool.beq_comm]
   cases hs:cutB 46 t with
   | nil=>exact absurd hs (cutB_ne 46 t)
   | cons a r=>simp only [List.any_cons,hb,Bool.or_assoc]
theorem all_nmW (s:ByteArray):(piecesC 46 s).all nmW=(!s.data.toList.contains 61 && !(cutB 46 s.data.toList).any List.isEmpty):=by
 rw [←any_61]
 unfold piecesC
 generalize cutB 46 s.data.toList=L
 induction L with
 | nil=>rfl
 | cons a r ih =>
  simp only [List.map_cons,List.all_cons,List.any_cons,ih]
  have:nmW ⟨a.toArray⟩=(!a.any badW && !a.isEmpty):=by unfold nmW;rfl
  rw [this]
  cases a.any badW <;> cases a.isEmpty <;> simp
theorem splace_any (s:ByteArray) (w:World) (hE:EnvS w) (hs:s.size≤1048576):Calls Tryz.prog 62 #[.string s] w fun e w'=>e=.returned (.bool ((piecesC 46 s).all nmW))∧Below w.heap.size w w':=by
 obtain ⟨-,-,-,m,hm⟩:=hE
 have h1:=Any.strings_Contains_one Tryz.lays144 s 61 w
 rw [←Lib.contains_iff_indexByte] at h1
 have hl:((⟨#[46]⟩:ByteArray) ++ s ++ ⟨#[46]⟩).data.toList=46 :: (s.data.toList ++ [46]):=by
  rw [ByteArray.data_append,ByteArray.data_append,Array.toList_append,Array.toList_append]
  rfl
 have hz:((⟨#[46]⟩:ByteArray) ++ s ++ ⟨#[46]⟩).size<4294967281:=by rw [Lib.size_eq,hl];simp;omega
 have h2:=Any.strings_Contains Tryz.lays144 (⟨#[46]⟩ ++ s ++ ⟨#[46]⟩) ⟨#[46,46]⟩ m w hz hm
 rw [hl,show (⟨#[46,46]⟩:ByteArray).data.toList=[46,46] from rfl,(dots_pieces s.data.toList).1] at h2
 rw [all_nmW]
 generalize s.data.toList.contains 61=a at h1
 generalize (cutB 46 s.data.toList).any List.isEmpty=b at h2
 have hsz:(s.size:Int)≤1048576:=by omega
 have z1:(((⟨#[46]⟩:ByteArray).size:Nat):Int)=1:=rfl
 have z2:(((⟨#[46]⟩:ByteArray) ++ s).size:Int)≤1048577:=by rw [ByteArray.size_append];show ((1+s.size:Nat):Int)≤_;omega
 clear hl hz hm hs
 cases a
 ·cases b
  all_goals
   go_enter Tryz.func62,Tryz.ntmps62
   go_wp2_with fail
   refine h1.mono ?_
   rintro e w1 ⟨rfl,rfl⟩
   go_wp2_with fail
   refine h2.mono ?_
   rintro e w2 ⟨rfl,rfl⟩
   go_wp2_with fail
   go_ret
   exact ⟨rfl,Below.refl _ _⟩
 ·clear h2
  go_enter Tryz.func62,Tryz.ntmps62
  go_wp2_with fail
  refine h1.mono ?_
  rintro e w1 ⟨rfl,rfl⟩
  go_wp2_with fail
  go_ret
  exact ⟨rfl,Below.refl _ _⟩
structure DrV (q:Nat) (S:RdQ) (A:Nat→Option Addr) (C:Nat→Nat) (vd vc:Value) (w:World):Prop where
 box:w.heap[q]?=some (.cells #[vd,vc] 47 (0,0))
 dm:DmV w (q+1) vd A C S.dims
 cells:w.ownsRow (q+1) 73 3 vc S.pl.length (cellsW S S.pl.length)
 num:S.num.length=S.pl.length
theorem DrV.lt {q:Nat} {S:RdQ} {A:Nat→Option Addr} {C:Nat→Nat} {vd vc:Value} {w:World} (h:DrV q S A C vd vc w):q<w.heap.size:=(Array.getElem?_eq_some_iff.1 h.box).1
theorem DrV.later {q:Nat} {S:RdQ} {A:Nat→Option Addr} {C:Nat→Nat} {vd vc:Value} {w w':World} (h:DrV q S A C vd vc w) (hb:Below w.heap.size w w'):DrV q S A C vd vc w' :=
 ⟨(hb.block q h.lt).trans h.box,h.dm.later hb,own_later h.cells hb,h.num⟩
theorem box2_0 {w:World} {q T:Nat} {a b v:Value} (h:w.heap[q]?=some (.cells #[a,b] T (0,0))):(w.setCell ⟨q,0,none⟩ v).heap[q]?=some (.cells #[v,b] T (0,0)):=by simp [World.setCell,Array.getElem?_modify,h]
theorem box2_1 {w:World} {q T:Nat} {a b v:Value} (h:w.heap[q]?=some (.cells #[a,b] T (0,0))):(w.setCell ⟨q,1,none⟩ v).heap[q]?=some (.cells #[a,v] T (0,0)):=by simp [World.setCell,Array.getElem?_modify,h]
theorem DrV.dim {q:Nat} {S:RdQ} {A:Nat→Option Addr} {C:Nat→Nat} {vd vc v':Value} {w wa w1:World} {nm:ByteArray} {sv:Int} (h:DrV q S A C vd vc w) (hb:Below w.heap.size w wa)
  (hown:w1.ownsRow (q+1) 32 3 v' (S.dims.length+1) (cellsDo (dmL S.dims) A C S.dims.length ++ [.string nm,.int .i64 sv,.slice none 0 0])) (hgrow:wa.grownBy w1 vd.ownBlock) :
  DrV q ⟨S.dims ++ [⟨nm,sv,[]⟩],S.pl,S.num,S.first⟩ (fun j=>if j<S.dims.length then A j else none) (fun j=>if j<S.dims.length then C j else 0) v' vc (w1.setCell ⟨q,0,none⟩ v')∧Below q w (w1.setCell ⟨q,0,none⟩ v'):=by
 have hq:=h.lt
 have hkeep:∀ (b:Nat) (cs:Array Value) (fr:Nat×Nat) (t:Nat),w.heap[b]?=some (Obj.cells cs t fr)→t≠32→w1.heap[b]?=w.heap[b]?:=fun b cs fr t hx ht=>by
  have hlt:=(Array.getElem?_eq_some_iff.1 hx).1
  exact (hgrow.block b (Nat.lt_of_lt_of_le hlt hb.size) fun e=>own_ne h.dm.dims hx ht e.symm).trans (hb.block b hlt)
 have hbox:=(hkeep q _ _ _ h.box (by decide)).trans h.box
 have hvq:v'.ownBlock≠some q:=fun e=>by have:=(hown.lt q e).1;omega
 refine ⟨⟨box2_0 hbox,h.dm.push (fun b cs fr hB hx=>?_) (own_setc hown hvq),?_,h.num⟩,?_⟩
 ·rw [setCell_off _ _ _ _ _ (by omega)]
  exact hkeep b cs fr _ hx (by decide)
 ·have e:cellsW ⟨S.dims ++ [⟨nm,sv,[]⟩],S.pl,S.num,S.first⟩ S.pl.length=cellsW S S.pl.length:=cellsW_cg (S:=⟨S.dims ++ [⟨nm,sv,[]⟩],S.pl,S.num,S.first⟩) (S':=S) rfl _ fun _ _=>⟨rfl,rfl⟩
  show World.ownsRow _ _ _ _ _ S.pl.length (cellsW ⟨S.dims ++ [⟨nm,sv,[]⟩],S.pl,S.num,S.first⟩ S.pl.length)
  rw [e]
  refine own_kept h.cells fun b hx=>?_
  obtain ⟨h1,-,cur,h3⟩:=own_blk h.cells hx
  rw [setCell_off _ _ _ _ _ (by omega)]
  exact hkeep b cur _ _ h3 (by decide)
 ·have hb':Below q w wa:=hb.mono (by omega)
  have hb2:Below q w w1:=hb'.grown hgrow (by have:=hb.size;omega) fun k hk=>by have:=(h.dm.dims.lt k hk).1;omega
  exact hb2.setCell (Nat.le_refl _) _
theorem Tryz.infoDimP:(Tryz.prog.info? 32).map (fun i=>(i.zero,i.size,i.bytes))=some (some (.agg #[.string ⟨#[]⟩,.int .i64 0,.slice none 0 0]),3,48):=by kernel_rfl
set_option maxHeartbeats 8000000 in
theorem stdim_any (q:Nat) (S:RdQ) (A:Nat→Option Addr) (C:Nat→Nat) (vd vc:Value) (nm sv:ByteArray) (w:World) (h:DrV q S A C vd vc w) (hE:EnvS w) (hn:S.dims.length≤1048577) (hnm:nm.size≤1048576) (hsv:sv.size≤1048576) :
  Calls Tryz.prog 35 #[.pointer (some ⟨q,0,none⟩),.string nm,.string sv] w fun e w'=>e=.returned (.bool (cntB sv && nmW nm && decide (S.pl.length=0)))∧Below q w w'∧(cntB sv=true∧nmW nm=true∧S.pl.length=0→∃ A' C' vd' vc',DrV q ⟨S.dims ++ [⟨nm,intI sv,[]⟩],S.pl,S.num,S.first⟩ A' C' vd' vc' w'):=by
 have hcn:=scount_any sv w hE hsv
 have hna:=fun w=>sname_any nm w hnm
 have hqs:=h.lt
 obtain ⟨i0,hi0,hz0,hz1,hz2⟩:=info_parts Tryz.infoDimP
 obtain ⟨Ad,cd,hvd⟩:=own_formK h.dm.dims
 obtain ⟨Ac,cc,hvc⟩:=own_formK h.cells
 subst hvd hvc
 have HV:=hid_of h
 have c0:w.cell? ⟨q,0,none⟩=some (.slice Ad S.dims.length cd):=(Lib.cell_of_heap h.box 0).trans rfl
 have c1:w.cell? ⟨q,1,none⟩=some (.slice Ac S.pl.length cc):=(Lib.cell_of_heap h.box 1).trans rfl
 have f0:w.frozen? ⟨q,0,none⟩=false:=Lib.frozen_of_heap h.box 0
 have HC:Hid (∀ w',Below w.heap.size w w'→w'.cell? ⟨q,0,none⟩=some (.slice Ad S.dims.length cd)∧w'.frozen? ⟨q,0,none⟩=false∧w'.cell? ⟨q,1,none⟩=some (.slice Ac S.pl.length cc)):=fun w' hb=>⟨(hb.cell (p:=⟨q,0,none⟩) hqs).trans c0,(hb.frozen (p:=⟨q,0,none⟩) hqs).trans f0,(hb.cell (p:=⟨q,1,none⟩) hqs).trans c1⟩
 clear c0 c1 f0 h hE hsv
 have HQ:Hid (∀ w',Below w.heap.size w w'→Below q w w'):=fun w' hb=>hb.mono (by omega)
 cases hc:cntB sv with
 | false =>
  rw [hc] at hcn
  simp only [Bool.false_and]
  generalize cntI sv=x at hcn
  clear hna hc HC HV hi0
  go_enter Tryz.func35,Tryz.ntmps35
  go_wp2_with fail
  refine hcn.mono ?_
  rintro e w1 ⟨rfl,hb1⟩
  go_wp2_with fail
  go_ret
  exact ⟨rfl,HQ.out _ hb1,fun h=>absurd h.1 (by decide)⟩
 | true =>
  rw [hc] at hcn
  have hx:cntI sv=intI sv:=by unfold cntI;rw [if_pos hc]
  rw [hx] at hcn
  generalize intI sv=x at hcn
  clear hx hc
  cases hw:nmW nm with
  | false =>
   simp only [hw] at hna
   simp only [Bool.and_false,Bool.false_and]
   clear HC HV hi0 hw
   go_enter Tryz.func35,Tryz.ntmps35
   go_wp2_with fail
   refine hcn.mono ?_
   rintro e w1 ⟨rfl,hb1⟩
   go_wp2_with fail
   refine (hna _).mono ?_
   rintro e w2 ⟨rfl,hb2⟩
   have HB2:=HQ.out _ (onB hb1 hb2)
   go_wp2_with fail
   go_ret
   exact ⟨rfl,HB2,fun h=>absurd h.2.1 (by decide)⟩
  | true =>
   simp only [hw] at hna
   simp only [Bool.true_and]
   clear hw
   by_cases hp:S.pl.length=0
   ·rw [decide_eq_true hp]
    have HP:=hid_of hp
    have hp1:((S.pl.length:Nat):Int)=0:=by omega
    obtain ⟨pl,hpl⟩:∃ pl,S.pl.length=pl:=⟨_,rfl⟩
    rw [hpl] at HC hp1
    obtain ⟨n,hn'⟩:∃ n,S.dims.length=n:=⟨_,rfl⟩
    have HN:=hid_of hn'
    rw [hn'] at HC hn
    have hown:=HV.out.dm.dims
    rw [hn'] at hown
    have HO:=hid_of hown
    obtain ⟨XS,hXS⟩:∃ XS,cellsDo (dmL S.dims) A C n=XS:=⟨_,rfl⟩
    have HXS:=hid_of hXS
    rw [hXS] at HO
    have HCl:Hid (∀ w',Calls Tryz.prog 58 #[.string nm] w' fun e w''=>e=.returned (.string nm)∧Below w'.heap.size w' w''):=fun w'=>sclone_any nm w' (by omega)
    have HNE:Hid (some q≠(Value.slice Ad n cd).ownBlock):=fun e=>by have:=(HO.out.lt _ e.symm).1;omega
    clear hown hp hpl hXS hn'
    go_enter Tryz.func35,Tryz.ntmps35
    go_wp2_with fail
    refine hcn.mono ?_
    rintro e w1 ⟨rfl,hb1⟩
    go_wp2_with fail
    refine (hna _).mono ?_
    rintro e w2 ⟨rfl,hb2⟩
    have HB2:=hid_of (onB hb1 hb2)
    obtain ⟨x1,x2,x3⟩:=HC.out _ HB2.out
    have hqr:q<w2.heap.size:=Nat.lt_of_lt_of_le hqs HB2.out.size
    have HC2:Hid (∀ w',Below w2.heap.size w2 w'→w'.cell? ⟨q,0,none⟩=some (.slice Ad n cd)∧w'.frozen? ⟨q,0,none⟩=false):=fun w' hb=>⟨(hb.cell (p:=⟨q,0,none⟩) hqr).trans x1,(hb.frozen (p:=⟨q,0,none⟩) hqr).trans x2⟩
    have HO2:=hid_of (own_later HO.out HB2.out)
    clear hb1 hb2 hcn hna
    go_wp2_with fail
    go_region_law ((first
     | (refine step_append_lies _ (by rfl) _ _ _ (by rfl) (q+1) 32 i0 _ 3 48 Tryz.underlying22 hi0 hz0 hz1 hz2 rfl (by omega) (.slice Ad n cd) n XS (by rfl) (own_stays HO2.out (by go_grown)) ⟨w4.heap.size,0,none⟩ 1 1 [.string nm,.int .i64 x,.slice none 0 0] (by rfl) (by rfl) (World.news_of_block (cs := #[.string nm,.int .i64 x,.slice none 0 0]) (t:=32) (fr:=(0,0)) (heap_alloc_new w4 _)) (by simp [Value.oneCell']) (by omega) (by unfold maxLen;omega) (by omega) (by simp;omega) (w4.heap.size+1) (by simp) ?_;intro gg cg w6 hown6 hgrow hat hlt6;have y1:=(hgrow.cell_far ⟨q,0,none⟩ (by simp;omega) HNE.out).trans (HC2.out _ (by go_grown)).1;have y2:=(hgrow.frozen_far ⟨q,0,none⟩ (by simp;omega) HNE.out).trans (HC2.out _ (by go_grown)).2)
     | (go_simp;refine (HCl.out _).mono ?_;rintro e w4 ⟨rfl,hb4⟩;have hN4:=onB (W0:=w2) (by go_grown) hb4;have hs4:=hN4.size;obtain ⟨z1,z2⟩:=HC2.out _ hN4;have hq4:q<w4.heap.size:=Nat.lt_of_lt_of_le hqr hs4;clear hb4)))
    all_goals rw [←HXS.out,←HN.out] at hown6
    all_goals rw [←HN.out] at hgrow
    all_goals (have hS:=DrV.dim (HV.out.later HB2.out) (by go_grown) hown6 hgrow)
    all_goals rw [HN.out] at hS
    all_goals (have HS:=hid_of hS)
    all_goals clear hown6 hgrow hS hN4
    all_goals go_wp2_with fail
    all_goals go_ret
    all_goals exact ⟨rfl,(HQ.out _ HB2.out).trans HS.out.2,fun _=>⟨_,_,_,_,HS.out.1⟩⟩
   ·rw [decide_eq_false hp]
    have hp1:0<((S.pl.length:Nat):Int):=by omega
    have HP:=hid_of hp
    generalize S.pl.length=pl at HC hp1 HP
    clear HV hi0 hp
    go_enter Tryz.func35,Tryz.ntmps35
    go_wp2_with fail
    refine hcn.mono ?_
    rintro e w1 ⟨rfl,hb1⟩
    go_wp2_with fail
    refine (hna _).mono ?_
    rintro e w2 ⟨rfl,hb2⟩
    have HB2:=hid_of (onB hb1 hb2)
    obtain ⟨x1,x2,x3⟩:=HC.out _ HB2.out
    go_wp2_with fail
    go_ret
    exact ⟨rfl,HQ.out _ HB2.out,fun h=>absurd h.2.2 HP.out⟩
def addW (S:RdQ) (p:ByteArray) (x:Int) (i:Nat):RdQ:=⟨S.dims,S.pl ++ [p],S.num ++ [x],if S.pl.length=0 then i else S.first⟩
theorem DrV.cell {q:Nat} {S:RdQ} {A:Nat→Option Addr} {C:Nat→Nat} {vd vc v':Value} {w wa w1:World} {p:ByteArray} {x:Int} {i:Nat} (h:DrV q S A C vd vc w) (hi:S.pl.length=0∨S.first+S.pl.length=i) (hb:Below w.heap.size w wa)
  (hown:w1.ownsRow (q+1) 73 3 v' (S.pl.length+1) (cellsW S S.pl.length ++ [.int .i64 (i:Int),.string p,.int .i64 x])) (hgrow:wa.grownBy w1 vc.ownBlock) :
  DrV q (addW S p x i) A C vd v' (w1.setCell ⟨q,1,none⟩ v')∧Below q w (w1.setCell ⟨q,1,none⟩ v'):=by
 have hq:=h.lt
 have hkeep:∀ (b:Nat) (cs:Array Value) (fr:Nat×Nat) (t:Nat),w.heap[b]?=some (Obj.cells cs t fr)→t≠73→w1.heap[b]?=w.heap[b]?:=fun b cs fr t hx ht=>by
  have hlt:=(Array.getElem?_eq_some_iff.1 hx).1
  exact (hgrow.block b (Nat.lt_of_lt_of_le hlt hb.size) fun e=>own_ne h.cells hx ht e.symm).trans (hb.block b hlt)
 have hbox:=(hkeep q _ _ _ h.box (by decide)).trans h.box
 have hvq:v'.ownBlock≠some q:=fun e=>by have:=(hown.lt q e).1;omega
 have hl:(S.pl ++ [p]).length=S.pl.length+1:=by simp
 refine ⟨⟨box2_1 hbox,h.dm.keep fun b cs fr t hB hx ht=>?_,?_,by show (S.num ++ [x]).length=(S.pl ++ [p]).length;simp [h.num]⟩,?_⟩
 ·rw [setCell_off _ _ _ _ _ (by omega)]
  exact hkeep b cs fr _ hx (by rcases ht with rfl | rfl <;> decide)
 ·show World.ownsRow _ _ _ _ _ (S.pl ++ [p]).length (cellsW ⟨S.dims,S.pl ++ [p],S.num ++ [x],if S.pl.length=0 then i else S.first⟩ (S.pl ++ [p]).length)
  rw [hl,cellsW_more h.num hi]
  exact own_setc hown hvq
 ·have hb':Below q w wa:=hb.mono (by omega)
  have hb2:Below q w w1:=hb'.grown hgrow (by have:=hb.size;omega) fun k hk=>by have:=(h.cells.lt k hk).1;omega
  exact hb2.setCell (Nat.le_refl _) _
theorem Tryz.infoWrP:(Tryz.prog.info? 73).map (fun i=>(i.zero,i.size,i.bytes))=some (some (.agg #[.int .i64 0,.string ⟨#[]⟩,.int .i64 0]),3,32):=by kernel_rfl
set_option maxHeartbeats 8000000 in
theorem stcell_any (q:Nat) (S:RdQ) (A:Nat→Option Addr) (C:Nat→Nat) (vd vc:Value) (p sv:ByteArray) (i:Nat) (w:World) (h:DrV q S A C vd vc w) (hE:EnvS w) (hi:S.pl.length=0∨S.first+S.pl.length=i) (hn:S.pl.length≤1048577) (hp:p.size≤1048576) (hsv:sv.size≤1048576) :
  Calls Tryz.prog 37 #[.pointer (some ⟨q,0,none⟩),.string p,.string sv,.int .i64 i] w fun e w'=>e=.returned (.bool (intB sv && (piecesC 46 p).all nmW))∧Below q w w'∧(intB sv=true∧(piecesC 46 p).all nmW=true→∃ A' C' vd' vc',DrV q (addW S p (intI sv) i) A' C' vd' vc' w'):=by
 have hcn:=snum_any sv w hE hsv
 have hpa:∀ w',Below w.heap.size w w'→Calls Tryz.prog 62 #[.string p] w' fun e w''=>e=.returned (.bool ((piecesC 46 p).all nmW))∧Below w'.heap.size w' w'':=fun w' hb=>splace_any p w' (hE.later hb) hp
 have hqs:=h.lt
 obtain ⟨i0,hi0,hz0,hz1,hz2⟩:=info_parts Tryz.infoWrP
 obtain ⟨Ac,cc,hvc⟩:=own_formK h.cells
 subst hvc
 have HV:=hid_of h
 have c1:w.cell? ⟨q,1,none⟩=some (.slice Ac S.pl.length cc):=(Lib.cell_of_heap h.box 1).trans rfl
 have f1:w.frozen? ⟨q,1,none⟩=false:=Lib.frozen_of_heap h.box 1
 have HC:Hid (∀ w',Below w.heap.size w w'→w'.cell? ⟨q,1,none⟩=some (.slice Ac S.pl.length cc)∧w'.frozen? ⟨q,1,none⟩=false):=fun w' hb=>⟨(hb.cell (p:=⟨q,1,none⟩) hqs).trans c1,(hb.frozen (p:=⟨q,1,none⟩) hqs).trans f1⟩
 clear c1 f1 h hE hsv hp
 have HQ:Hid (∀ w',Below w.heap.size w w'→Below q w w'):=fun w' hb=>hb.mono (by omega)
 cases hc:intB sv with
 | false =>
  rw [hc] at hcn
  simp only [Bool.false_and]
  generalize intI sv=x at hcn
  clear hpa hc HC HV hi0 hi
  go_enter Tryz.func37,Tryz.ntmps37
  go_wp2_with fail
  refine hcn.mono ?_
  rintro e w1 ⟨rfl,hb1⟩
  go_wp2_with fail
  go_ret
  exact ⟨rfl,HQ.out _ hb1,fun h=>absurd h.1 (by decide)⟩
 | true =>
  rw [hc] at hcn
  generalize intI sv=x at hcn
  clear hc
  cases hw:(piecesC 46 p).all nmW with
  | false =>
   simp only [hw] at hpa
   simp only [Bool.and_false]
   clear HC HV hi0 hw hi
   go_enter Tryz.func37,Tryz.ntmps37
   go_wp2_with fail
   refine hcn.mono ?_
   rintro e w1 ⟨rfl,hb1⟩
   have h2:=hpa w1 hb1
   go_wp2_with fail
   refine h2.mono ?_
   rintro e w2 ⟨rfl,hb2⟩
   have HB2:=HQ.out _ (onB hb1 hb2)
   go_wp2_with fail
   go_ret
   exact ⟨rfl,HB2,fun h=>absurd h.2 (by decide)⟩
  | true =>
   simp only [hw] at hpa
   simp only [Bool.true_and]
   have HI:=hid_of hi
   clear hw hi
   obtain ⟨n,hn'⟩:∃ n,S.pl.length=n:=⟨_,rfl⟩
   have HN:=hid_of hn'
   rw [hn'] at HC hn
   have hown:=HV.out.cells
   rw [hn'] at hown
   have HO:=hid_of hown
   obtain ⟨XS,hXS⟩:∃ XS,cellsW S n=XS:=⟨_,rfl⟩
   have HXS:=hid_of hXS
   rw [hXS] at HO
   have HNE:Hid (some q≠(Value.slice Ac n cc).ownBlock):=fun e=>by have:=(HO.out.lt _ e.symm).1;omega
   clear hown hXS hn'
   go_enter Tryz.func37,Tryz.ntmps37
   go_wp2_with fail
   refine hcn.mono ?_
   rintro e w1 ⟨rfl,hb1⟩
   have h2:=hpa w1 hb1
   go_wp2_with fail
   refine h2.mono ?_
   rintro e w2 ⟨rfl,hb2⟩
   have HB2:=hid_of (onB hb1 hb2)
   obtain ⟨x1,x2⟩:=HC.out _ HB2.out
   have hqr:q<w2.heap.size:=Nat.lt_of_lt_of_le hqs HB2.out.size
   have HO2:=hid_of (own_later HO.out HB2.out)
   clear hb1 hb2 hcn hpa h2
   go_wp2_with (at_builtin;refine wpList_append_own _ rfl _ _ 45 rfl (q+1) 73 i0 (.agg #[.int .i64 0,.string ⟨#[]⟩,.int .i64 0]) 3 32 Tryz.underlying45 hi0 hz0 hz1 hz2 rfl (by decide) _ _ _ rfl (HO2.out.alloc _) ⟨w2.heap.size,0,none⟩ 1 1 [.int .i64 i,.string p,.int .i64 x] rfl rfl ?qe2 ?qe3 ?qe4 ?qe5 ?qe6 ?_)
   case qe2 =>
    intro j u hj
    rw [plain_addK,Lib.cell_of_heap (heap_alloc_new w2 (.cells #[.int .i64 i,.string p,.int .i64 x] 73))]
    simpa using hj
   case qe3=>intro u hu;simp at hu;rcases hu with rfl | rfl | rfl <;> rfl
   case qe4=>simp only [maxLen];omega
   case qe5=>omega
   case qe6=>simp;omega
   intro v' w8 hown' hgrow hnil
   obtain ⟨A8,c8,rfl⟩:=own_formK hown'
   have y1:=(hgrow.cell_far ⟨q,1,none⟩ (by simp;omega) HNE.out).trans ((cell_laterS x1 (by go_grown)))
   have y2:w8.frozen? ⟨q,1,none⟩=false:=(hgrow.frozen_far ⟨q,1,none⟩ (by simp;omega) HNE.out).trans ((Below.frozen (p:=⟨q,1,none⟩) (by go_grown) hqr).trans x2)
   rw [←HXS.out,←HN.out] at hown'
   rw [←HN.out] at hgrow
   have hS:=DrV.cell (HV.out.later HB2.out) HI.out (by go_grown) hown' hgrow
   rw [HN.out] at hS
   have HS:=hid_of hS
   clear hown' hgrow hS hnil
   go_wp2_with fail
   go_ret
   exact ⟨rfl,(HQ.out _ HB2.out).trans HS.out.2,fun _=>⟨_,_,_,_,HS.out.1⟩⟩
end Go.Proofs.YtpoklbfffgpbiaaGreatDoor
