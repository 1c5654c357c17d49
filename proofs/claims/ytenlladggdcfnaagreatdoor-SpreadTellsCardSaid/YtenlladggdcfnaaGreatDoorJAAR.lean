/-
  A list of ints cloned: what slices.Clone answers at []int, wherever the list lies.
-/
import Derived.Lib.ItoaLen
import Derived.Lib.AppendIntMem
import Derived.Lib.OwnBridge
import Derived.Shelf.Slices.In.SortNone
import Derived.Sort.Walk0
import Derived.Maps.AppendAt
import Derived.Shelf.Spec.SlicesInsertGrow
import Derived.Laws.OwnMore
import Derived.Test.YtenlladggdcfnaaGreatDoorJAAQ
namespace Go.Proofs.YtenlladggdcfnaaGreatDoor
open Go.ChangeShapes Go.WideShapes Go.ChangeAt Go.RowKit
set_option maxRecDepth 20000
set_option maxHeartbeats 2000000 in
theorem iclone_pl (A:Option Addr) (c:Nat) (L:List Int) (w:World) (hL:L.length≤1048576) (hP:PlAt w A c L):Calls Tryz.prog 122 #[.slice A L.length c] w fun e w'=>(∃ v,e=.returned v∧w'.ownsRow w.heap.size 3 1 v L.length (mapI L))∧Below w.heap.size w w':=by
 have hq:∀ (w:World) (a:Option Addr) (n c n' c':Nat),(binOp .eql 22 (.slice a n c) (.slice none n' c')).run Tryz.prog w=.ok (.bool a.isNone) w:=fun w a n c n' c'=>Lib.run_eql_slice_nil w _ _ a n c n' c' Tryz.underlying22
 cases A with
 | none =>
  obtain ⟨-,h0 | ⟨b,o,h0,-⟩⟩:=hP
  ·subst h0
   simp only [List.length_nil]
   go_enter Tryz.func122,Tryz.ntmps122
   go_wp2_with fail
   go_ret
   exact ⟨⟨_,rfl,World.ownsRow_nil _ _ _ _⟩,Below.refl _ _⟩
  ·cases h0
 | some a =>
  obtain ⟨i0,hi0,hz0,hz1,hz2⟩:=info_parts Tryz.infoInt
  have HC:Hid (∀ j u,(mapI L)[j]?=some u→w.cell? (a.add j)=some u):=by
   intro j u hj
   obtain ⟨-,h0 | ⟨b,o,h0,-,hcell⟩⟩:=hP
   ·subst h0;simp [mapI] at hj
   ·cases h0
    have hlt:j<L.length:=by have:=(List.getElem?_eq_some_iff.1 hj).1;simpa [mapI] using this
    rw [plain_add,hcell j hlt]
    simp only [mapI,List.getElem?_map,List.getElem?_eq_getElem hlt,Option.map_some,Option.some.injEq] at hj
    rw [←hj,List.getD_eq_getElem?_getD,List.getElem?_eq_getElem hlt]
    rfl
  have hl:(mapI L).length=L.length*1:=by simp [mapI]
  have h1:∀ u∈mapI L,u.oneCell'=true:=by intro u hu;simp [mapI] at hu;obtain ⟨x,-,rfl⟩:=hu;rfl
  clear hP
  go_enter Tryz.func122,Tryz.ntmps122
  go_wp2_with (at_builtin;refine wpList_append_own _ rfl _ _ 22 rfl w.heap.size 3 i0 (.int .i64 0) 1 8 Tryz.underlying22 hi0 hz0 hz1 hz2 rfl (by decide) _ _ _ rfl (World.ownsRow_made w #[] 0 (Nat.le_refl _) (Nat.zero_le _) (by simp)) a L.length c (mapI L) rfl ?qc1 ?qc2 ?qc3 ?qc4 ?qc5 ?qc6 ?_)
  case qc1=>exact hl
  case qc2=>exact fun j u hj=>Lib.cell?_alloc_some _ (HC.out j u hj)
  case qc3=>exact h1
  case qc4=>simp only [maxLen];omega
  case qc5=>omega
  case qc6=>simp
  intro v' w1 hown hgrow hnil
  have HO:Hid (w1.ownsRow w.heap.size 3 1 v' L.length (mapI L)):=hown
  have HB:Hid (Below w.heap.size w w1):=((Below.refl _ w).alloc (Nat.le_refl _) _).grown hgrow (by simp) (by intro k hk;simp [Value.ownBlock] at hk;omega)
  clear hown hgrow hnil
  go_wp2_with fail
  go_ret
  exact ⟨⟨_,rfl,HO.out⟩,HB.out⟩
def IntT (w:World) (A:Option Addr) (c:Nat) (L:List Int):Prop:=L.length≤c∧c≤9223372036854775807∧(L=[]∨∃ b cs fr,A=some ⟨b,0,none⟩∧w.heap[b]?=some (.cells cs 3 fr)∧∀ j,j<L.length→w.cell? ⟨b,j,none⟩=some (.int .i64 (L.getD j 0)))
theorem IntT.at {w:World} {A:Option Addr} {c:Nat} {L:List Int} (h:IntT w A c L):IntsAt w A c L:=by
 obtain ⟨h1,-,h2 | ⟨b,cs,fr,h2,h3,h4⟩⟩:=h
 ·exact ⟨h1,Or.inl h2⟩
 ·exact ⟨h1,Or.inr ⟨b,h2,(Array.getElem?_eq_some_iff.1 h3).1,h4⟩⟩
theorem IntT.nil (w:World) (A:Option Addr) (c:Nat) (h:c≤9223372036854775807):IntT w A c []:=⟨Nat.zero_le _,h,Or.inl rfl⟩
theorem IntT.keep {w w':World} {A:Option Addr} {c:Nat} {L:List Int} (h:IntT w A c L) (hB:∀ (b:Nat) (cs:Array Value) (fr:Nat×Nat),w.heap[b]?=some (Obj.cells cs 3 fr)→w'.heap[b]?=w.heap[b]?):IntT w' A c L:=by
 obtain ⟨h1,h0,h2 | ⟨b,cs,fr,h2,h3,h4⟩⟩:=h
 ·exact ⟨h1,h0,Or.inl h2⟩
 ·have hb:=hB b cs fr h3
  exact ⟨h1,h0,Or.inr ⟨b,cs,fr,h2,hb.trans h3,fun j hj=>(World.cell?_of_block (a:=⟨b,j,none⟩) hb).trans (h4 j hj)⟩⟩
theorem IntT.later {w w':World} {A:Option Addr} {c:Nat} {L:List Int} (h:IntT w A c L) (hB:Below w.heap.size w w'):IntT w' A c L :=
 h.keep fun b _ _ hb=>hB.block b (Array.getElem?_eq_some_iff.1 hb).1
theorem intT_own {w:World} {base:Nat} {v:Value} {L:List Int} (h:w.ownsRow base 3 1 v L.length (mapI L)):∃ A c,v=.slice A L.length c∧IntT w A c L:=by
 rcases h.2 with ⟨rfl,h0⟩ | ⟨g,cap,cur,rfl,hb,hg,hc,hm,_,_⟩
 ·have:L=[]:=List.eq_nil_of_length_eq_zero h0
  subst this
  exact ⟨none,0,rfl,IntT.nil _ _ _ (by omega)⟩
 ·refine ⟨_,cap,rfl,hc,by unfold maxLen at hm;omega,Or.inr ⟨g,cur,_,rfl,hg,fun j hj=>?_⟩⟩
  have hx:=h.cells (g:=g) rfl j (.int .i64 (L.getD j 0)) (by simp [mapI,List.getD,List.getElem?_eq_getElem hj])
  have hadd:(⟨g,0,none⟩:Addr).add j=⟨g,j,none⟩:=by unfold Addr.add;split <;> simp_all
  rw [hadd] at hx
  exact hx
theorem row_ne_int:(3:Nat)≠22:=by decide
theorem IntT.row {w w':World} {base:Nat} {v:Value} {n:Nat} {zs:List Value} {A:Option Addr} {c:Nat} {L:List Int} (h:IntT w A c L) (hown:w.ownsRow base 22 1 v n zs) (hG:w.grownBy w' v.ownBlock):IntT w' A c L:=by
 refine h.keep fun b cs fr hb=>hG.block b (Array.getElem?_eq_some_iff.1 hb).1 fun e=>?_
 rcases hown.2 with ⟨rfl,-⟩ | ⟨g,cap,cur,rfl,-,hg,-⟩
 ·cases e
 ·simp only [Value.ownBlock,Option.some.injEq] at e
  rw [e,hg] at hb
  simp only [Option.some.injEq,Obj.cells.injEq] at hb
  exact row_ne_int hb.2.1.symm
structure RL where
 p:List Int
 A:Option Addr
 c:Nat
def noR:RL:=⟨[],none,0⟩
def lR (xs:List RL):List (List Int):=xs.map RL.p
theorem lR_len (xs:List RL):(lR xs).length=xs.length:=by simp [lR]
theorem lR_append (a b:List RL):lR (a ++ b)=lR a ++ lR b:=by simp [lR]
def cellsR (xs:List RL):List Value:=xs.map fun x=>.slice x.A x.p.length x.c
theorem cellsR_append (a b:List RL):cellsR (a ++ b)=cellsR a ++ cellsR b:=by simp [cellsR]
theorem rl_mem {xs:List RL} {k:Nat} (h:k<xs.length):xs.getD k noR∈xs:=by
 rw [List.getD_eq_getElem?_getD,List.getElem?_eq_getElem h]
 exact List.getElem_mem h
theorem lR_at (xs:List RL) (k:Nat):(lR xs).getD k []=(xs.getD k noR).p:=by
 rw [List.getD_eq_getElem?_getD,List.getD_eq_getElem?_getD,lR,List.getElem?_map]
 cases xs[k]? <;> rfl
theorem cellsR_at {xs:List RL} {k:Nat} (h:k<xs.length):(cellsR xs)[k]?=some (.slice (xs.getD k noR).A (xs.getD k noR).p.length (xs.getD k noR).c):=by
 simp [cellsR,List.getD,h]
def RowsV (w:World) (A:Option Addr) (cap:Nat) (xs:List RL):Prop:=xs.length≤cap∧(xs=[]∨∃ b,A=some ⟨b,0,none⟩∧b<w.heap.size∧∀ k,k<xs.length→w.cell? ⟨b,k,none⟩=some (.slice (xs.getD k noR).A (xs.getD k noR).p.length (xs.getD k noR).c))∧∀ x∈xs,IntT w x.A x.c x.p
theorem RowsV.later {w w':World} {A:Option Addr} {cap:Nat} {xs:List RL} (h:RowsV w A cap xs) (hB:Below w.heap.size w w'):RowsV w' A cap xs:=by
 obtain ⟨h1,h2,h3⟩:=h
 refine ⟨h1,?_,fun x hx=>(h3 x hx).later hB⟩
 rcases h2 with h2 | ⟨b,h2,h4,h5⟩
 ·exact Or.inl h2
 ·exact Or.inr ⟨b,h2,Nat.lt_of_lt_of_le h4 hB.size,fun k hk=>(hB.cell (p:=⟨b,k,none⟩) h4).trans (h5 k hk)⟩
theorem RowsV.nil (w:World) (A:Option Addr) (cap:Nat):RowsV w A cap []:=⟨Nat.zero_le _,Or.inl rfl,fun x hx=>by cases hx⟩
theorem rows_own {w:World} {base:Nat} {v:Value} {xs:List RL} (h:w.ownsRow base 22 1 v xs.length (cellsR xs)) (hp:∀ x∈xs,IntT w x.A x.c x.p):∃ A c,v=.slice A xs.length c∧RowsV w A c xs:=by
 rcases h.2 with ⟨rfl,h0⟩ | ⟨g,cap,cur,rfl,hb,hg,hc,_,_,_⟩
 ·have:xs=[]:=List.eq_nil_of_length_eq_zero h0
  subst this
  exact ⟨none,0,rfl,RowsV.nil _ _ _⟩
 ·refine ⟨_,cap,rfl,hc,Or.inr ⟨g,rfl,(Array.getElem?_eq_some_iff.1 hg).1,fun k hk=>?_⟩,hp⟩
  have y:=h.cells (g:=g) rfl k _ (cellsR_at hk)
  have hadd:(⟨g,0,none⟩:Addr).add k=⟨g,k,none⟩:=by unfold Addr.add;split <;> simp_all
  rw [hadd] at y
  exact y
theorem Tryz.infoRow:(Tryz.prog.info? 22).map (fun i=>(i.zero,i.size,i.bytes))=some (some (.slice none 0 0),1,24):=by kernel_rfl
theorem iclone_any (A:Option Addr) (c:Nat) (L:List Int) (w:World) (hL:L.length≤12) (hP:IntT w A c L):Calls Tryz.prog 122 #[.slice A L.length c] w fun e w'=>(∃ v,e=.returned v∧w'.ownsRow w.heap.size 3 1 v L.length (mapI L))∧Below w.heap.size w w' :=
 iclone_pl A c L w (by omega) (pl_ints hP.at)
def BoxN (w:World) (q:Nat) (v:Value):Prop:=q<w.heap.size∧w.cell? ⟨q,0,none⟩=some v
theorem BoxN.same {w w':World} {q:Nat} {v:Value} (h:BoxN w q v) (hz:w.heap.size≤w'.heap.size) (hb:w'.heap[q]?=w.heap[q]?):BoxN w' q v :=
 ⟨Nat.lt_of_lt_of_le h.1 hz,(World.cell?_of_block (a:=⟨q,0,none⟩) hb).trans h.2⟩
theorem BoxN.later {w w':World} {q:Nat} {v:Value} (h:BoxN w q v) (hB:Below w.heap.size w w'):BoxN w' q v:=h.same hB.size (hB.block q h.1)
theorem cel_grown {w w':World} {g i j:Nat} {a b:Value} (h:w.grownBy w' (some g)):w.grownBy ((w'.setCell ⟨g,i,none⟩ a).setCell ⟨g,j,none⟩ b) (some g) :=
 ⟨h.os,h.tape,h.output,by simpa [World.setCell] using h.size,fun k hk hr=>(Below.heap_setCell _ ⟨g,j,none⟩ b k fun e=>hr (by rw [e])).trans ((Below.heap_setCell w' ⟨g,i,none⟩ a k fun e=>hr (by rw [e])).trans (h.block k hk hr))⟩
theorem boxn_other {w w':World} {q g:Nat} {v:Value} (h:BoxN w q v) (hne:q≠g) (hG:w.grownBy w' (some g)):BoxN w' q v:=h.same hG.size (hG.block q h.1 fun e=>hne (by simpa using e))
end Go.Proofs.YtenlladggdcfnaaGreatDoor
namespace Go.Proofs.YtenlladggdcfnaaGreatDoor
open Go Go.ChangeShapes Go.WideShapes Go.ChangeAt Go.RowKit
set_option maxRecDepth 20000
theorem set_old {l:List En} {p:List Int} (h:hasE l p=true) (n:Int):setL l p n=l.set (cntE l p) ⟨(l.getD (cntE l p) noEn).pl,n⟩∧cntE l p<l.length∧(l.getD (cntE l p) noEn).pl=p:=by
 have hi:cntE l p<l.length:=by
  rcases Nat.lt_or_ge (cntE l p) l.length with h1 | h1
  ·exact h1
  ·rw [(has_out rfl h1).1] at h;cases h
 have h2:=has_cmp rfl hi
 rw [h] at h2
 have h3:(l.getD (cntE l p) noEn).pl=p:=by
  rcases cmpL_three (l.getD (cntE l p) noEn).pl p with ⟨e1,_⟩ | ⟨_,_,e3⟩ | ⟨e1,_⟩
  ·rw [e1] at h2;cases h2
  ·exact e3
  ·rw [e1] at h2;cases h2
 refine ⟨?_,hi,h3⟩
 unfold setL
 rw [h,h3,if_pos rfl,List.set_eq_take_append_cons_drop,if_pos hi]
end Go.Proofs.YtenlladggdcfnaaGreatDoor
namespace Go.Proofs.YtenlladggdcfnaaGreatDoor
open Go.ChangeShapes Go.WideShapes Go.ChangeAt Go.RowKit
set_option maxRecDepth 20000
theorem short_of {D:Nat→Dm} {n:Nat} {xs:List EnL} {p:List Int} (hE:Ens D n (lE xs)) (hp:InO D n p):Short xs p:=by
 refine ⟨fun k hk=>?_,inO_short hp⟩
 have h1:(xs.getD k noL).e∈lE xs:=List.mem_map.2 ⟨_,enl_mem hk,rfl⟩
 exact inO_short (hE.each _ h1).1
theorem few_of {D:Nat→Dm} {n:Nat} {xs:List EnL} (hE:Ens D n (lE xs)):xs.length≤3000:=by have:=hE.few;rw [lE_len] at this;exact this
theorem drop_at {L:List Int} {k:Nat} (h:k<L.length):L.drop k=L.getD k 0 :: L.drop (k+1):=by
 rw [List.drop_eq_getElem_cons h];simp [List.getD,List.getElem?_eq_getElem h]
theorem getD_mem {L:List Int} {k:Nat} (h:k<L.length):L.getD k 0∈L:=by
 simp [List.getD,List.getElem?_eq_getElem h]
set_option maxHeartbeats 2000000 in
theorem weight_any (b o n cap j:Nat) (i:Int) (M:Nat→Mem) (w:World) (hn:n≤12) (hj:j<n) (ht:Tr M n) (hs:Sg M n) (hM:MemsAt w b o n M):Calls Tryz.prog 127 #[.slice (some ⟨b,o,none⟩) n cap,.int .i64 i,.int .i64 j] w fun e w'=>e=.returned (.int .i64 (weightOf M i j))∧Below w.heap.size w w':=by
 have hpl:=path_any b o n cap j M w hn hj ht hM
 have HM:Hid (MemsAt w b o n M):=hM
 have HS:Hid (Sg M n):=hs
 have hln:(pathOf M j).length≤12:=by have:=pathOf_len ht n j (by omega) (by omega);omega
 have HI:Hid (∀ x∈pathOf M j,0≤x∧x<n):=fun x hx=>by have:=pathOf_mem ht n j (by omega) (by omega) x hx;omega
 have HW:Hid (wgt M i (pathOf M j) 1=weightOf M i j):=rfl
 generalize pathOf M j=L at hpl hln HI HW
 clear hM ht hs
 go_enter Tryz.func127,Tryz.ntmps127
 go_wp2_with fail
 refine hpl.mono ?_
 rintro e w1 ⟨⟨A,c,rfl,hI⟩,hb1⟩
 have HB1:Hid (Below w.heap.size w w1):=hb1
 have hM1:=HM.out.later hb1
 have hbw:=hM1.1
 have HMs:Hid (MemsAt w1 b o n M):=hM1
 have HL:Hid (IntsAt w1 A c L):=hI
 clear hb1 hpl hM1 hI
 go_wp2_with fail
 go_loopg [7,14] L.length (fun g s7 s14 wr => ∃ (k:Nat) (a:Int),k≤L.length∧g=L.length-k∧s14=.int .i64 k∧s7=.int .i64 a∧(-1≤a∧a≤1)∧wgt M i (L.drop k) a=wgt M i L 1∧wr=w1)
 case atStart=>exact ⟨0,1,Nat.zero_le _,rfl,rfl,rfl,by omega,rfl,rfl⟩
 case round =>
  obtain ⟨k,a,hk,rfl,rfl,rfl,ha,hf,rfl⟩:=hrel
  have HF:Hid (wgt M i (L.drop k) a=wgt M i L 1):=hf
  clear hf
  by_cases hlt:k<L.length
  ·obtain ⟨hc,h0 | ⟨g,rfl,hg,hcell⟩⟩:=HL.out
   ·rw [h0] at hlt;cases hlt
   have hx:=HI.out _ (getD_mem hlt)
   have HD:Hid (L.drop k=L.getD k 0 :: L.drop (k+1)):=drop_at hlt
   have hcx:=hcell k hlt
   generalize L.getD k 0=x at hx HD hcx
   obtain ⟨m,rfl⟩:∃ m:Nat,x=m:=⟨x.toNat,by omega⟩
   have hmn:m<n:=by omega
   have hki:(k:Int)<(L.length:Int):=by omega
   have hln':(L.length:Int)≤12:=by omega
   have hn':(n:Int)≤12:=by omega
   have hmi:(m:Int)<(n:Int):=by omega
   clear hcell hx
   by_cases hq:(m:Int)=i
   ·subst hq
    have HR:Hid (a=weightOf M m j):=by show _=_;rw [←HW.out,←HF.out,HD.out,wgt_hit]
    go_wp2_with fail
    go_ret
    exact ⟨by rw [←HR.out];rfl,HB1.out⟩
   ·have hq':((m:Int) == i)=false:=by simpa using hq
    obtain ⟨-,-,h2,-⟩:=HMs.out.2 m hmn
    have hsm:=HS.out m hmn
    have hmul:=small_mul ha hsm
    have HR:Hid (wgt M i (L.drop (k+1)) (a*(M m).sign)=wgt M i L 1):=by show _=_;rw [←HF.out,HD.out,wgt_miss hq];rfl
    have HMul:Hid (-1≤a*(M m).sign∧a*(M m).sign≤1):=hmul
    clear hq
    go_wp2_with fail
    go_roundg (L.length-(k+1))
    case measure=>omega
    case rel=>exact ⟨k+1,a*(M m).sign,by omega,rfl,by go_num,by go_num,HMul.out,HR.out,rfl⟩
  ·have hke:k=L.length:=by omega
   have HR:Hid (0=weightOf M i j):=by show _=_;rw [←HW.out,←HF.out,hke,List.drop_length];rfl
   subst hke
   go_wp2_with fail
   go_ret
   exact ⟨by rw [←HR.out];rfl,HB1.out⟩
def tkU:Unit→ByteArray→Unit:=fun _ _=>()
def goneU (s:ByteArray):Rd Unit×Bool:=allR s tkU ⟨0,0,()⟩
def goneB (s:ByteArray):Rd Bld×Bool:=allR s takeB ⟨0,0,noB⟩
def nodesP (s:ByteArray):List Nd:=(settleB 0 (goneB s).1.st).nodes
def prsE (s:ByteArray):Int:=if 100<s.size then (if (goneU s).2=true then 4 else 2) else if (goneB s).2=true then formErr (nodesP s) else 2
def prsA (s:ByteArray):Nat:=if 100<s.size then (if (goneU s).2=true then 0 else (goneU s).1.at') else if (goneB s).2=true then 0 else (goneB s).1.at'
def prsL (s:ByteArray):List Nd:=if prsE s=0 then nodesP s else []
theorem nds_of {w:World} {N:Nat} {A:Option Addr} {c:Nat} {l:List Nd} (h:w.ownsRow N 172 5 (.slice A l.length c) l.length (cellsN l)):NdsV w A c l:=by
 rcases h.2 with ⟨h0,h1⟩ | ⟨g,cap,cur,h0,hb,hg,hc,hm,hs,ht⟩
 ·simp only [Value.slice.injEq] at h0
  obtain ⟨rfl,-,rfl⟩:=h0
  exact ⟨by omega,by omega,Or.inl (List.eq_nil_of_length_eq_zero h1)⟩
 ·cases h0
  refine ⟨hc,by unfold maxLen at hm;omega,Or.inr ⟨g,0,rfl,(Array.getElem?_eq_some_iff.1 hg).1,fun k hk=>?_⟩⟩
  have hcell:∀ j u,(cellsN l)[j]?=some u→w.cell? ⟨g,j,none⟩=some u:=fun j u hu=>by
   have hx:=h.cells (g:=g) rfl j u hu
   have hadd:(⟨g,0,none⟩:Addr).add j=⟨g,j,none⟩:=by unfold Addr.add;split <;> simp_all
   rw [hadd] at hx
   exact hx
  obtain ⟨a0,a1,a2,a3,a4⟩:=cellsN_at l k hk
  simp only [Nat.zero_add]
  exact ⟨hcell _ _ a0,hcell _ _ a1,hcell _ _ a2,hcell _ _ a3,hcell _ _ a4⟩
def newB (w:World):World:=w.alloc (.cells #[.slice none 0 0,.slice none 0 0,.slice none 0 0] 203)
theorem newB_at (w:World):BldAt (w.heap.size+4) w.heap.size noB (newB w):=by
 refine ⟨none,0,none,0,none,0,by omega,heap_alloc_new w _,World.ownsRow_nil _ _ _ _,World.ownsRow_nil _ _ _ _,World.ownsRow_nil _ _ _ _,?_⟩
 intro g hg
 cases hg
theorem newB_size (w:World):(newB w).heap.size=w.heap.size+1:=by unfold newB;simp
theorem newB_below (w:World):Below w.heap.size w (newB w):=by unfold newB;go_grown
theorem below_of_kept {w w1 w2:World} {p:Nat} (h:Below w.heap.size w w1) (hk:Kept w1.heap.size (fun k=>k=p) w1 w2) (hp:w.heap.size≤p):Below w.heap.size w w2 :=
 ⟨hk.os.trans h.os,hk.tape.trans h.tape,hk.output.trans h.output,Nat.le_trans h.size hk.size,fun k hk'=>by
  rw [hk.block k (Nat.lt_of_lt_of_le hk' h.size) (by omega)]
  exact h.block k hk'⟩
theorem fit_new:FitB 0 0 false noB:=⟨rfl,by decide,Nat.le_refl _,Nat.le_refl _,Nat.le_refl _⟩
theorem opens_in {S:Type} {s:ByteArray} {tk:S→ByteArray→S}:∀ (f:Nat) (r:Rd S),r.at'≤s.size→(opensR s tk f r).at'≤s.size
 | 0,r,h=>h
 | f+1,r,h=>by
  rw [opensR]
  split
  ·rename_i h40
   exact opens_in f _ (opn_word (o:=0) h h40).1
  ·exact h
theorem closes_in {S:Type} {s:ByteArray} {tk:S→ByteArray→S}:∀ (f:Nat) (r:Rd S),r.at'≤s.size→(closesR s tk f r).at'≤s.size
 | 0,r,h=>h
 | f+1,r,h=>by
  rw [closesR]
  split
  ·rename_i h41
   exact closes_in f _ (cls_word (o:=0) h h41.2).1
  ·exact h
theorem operand_in {S:Type} {s:ByteArray} {tk:S→ByteArray→S} (r:Rd S) (h:r.at'≤s.size):(operandR s tk r).1.at'≤s.size:=by
 have h1:(openedR s tk r).at'≤s.size:=opens_in _ r h
 unfold operandR
 split
 ·rename_i hd
  exact closes_in _ _ (dig_word (o:=0) h1 hd).1
 ·split
  ·rename_i hl
   exact closes_in _ _ (let_word (o:=0) h1 hl).1
  ·exact h1
theorem loop_in {S:Type} {s:ByteArray} {tk:S→ByteArray→S}:∀ (f:Nat) (r:Rd S),r.at'≤s.size→(loopR s tk f r).1.at'≤s.size
 | 0,r,h=>h
 | f+1,r,h=>by
  have hsg:(signR s tk r).1.at'≤s.size:=by
   unfold signR
   split
   ·exact h
   ·rename_i hs
    exact (sgn_stp (o:=0) h hs).1
  rw [loopR]
  split
  ·split
   ·split
    ·exact loop_in f _ (operand_in _ hsg)
    ·exact operand_in _ hsg
   ·exact hsg
  ·exact h
theorem all_in {S:Type} {s:ByteArray} {tk:S→ByteArray→S} (r:Rd S) (h:r.at'≤s.size):(allR s tk r).1.at'≤s.size:=by
 unfold allR
 split
 ·split
  ·exact loop_in _ _ (operand_in _ h)
  ·exact loop_in _ _ (operand_in _ h)
 ·exact operand_in _ h
def noT:ByteArray:=⟨#[]⟩
def sgnT (op:Int):ByteArray:=if op=3 then ⟨#[43]⟩ else if op=4 then ⟨#[45]⟩ else if op=5 then ⟨#[42]⟩ else ⟨#[47]⟩
theorem Tryz.infoStrF:(Tryz.prog.info? 9).map (fun i=>(i.zero,i.size,i.bytes))=some (some (.string ⟨#[]⟩),1,16):=by kernel_rfl
theorem take_snoc (l:List Nd) {k:Nat} (hk:k<l.length):l.take (k+1)=l.take k ++ [l.getD k noN]:=by
 rw [List.take_add_one,List.getElem?_eq_getElem hk]
 simp [List.getD,List.getElem?_eq_getElem hk]
end Go.Proofs.YtenlladggdcfnaaGreatDoor
namespace Go.Proofs.YtenlladggdcfnaaGreatDoor
open Go.ChangeShapes Go.WideShapes Go.ChangeAt Go.RowKit
open Go.Sort (putRow Holds grow holds_putRow)
set_option maxRecDepth 20000
def nmsTo (l:List Nd) (k:Nat):List (List UInt8):=((l.take k).filter fun x=>decide (x.op=2)).map fun x=>x.name.data.toList
def refsP (l:List Nd):List (List UInt8):=if formErr l=0 then Lib.compact ((nmsTo l l.length).mergeSort fun x y=>decide (x≤y)) else []
theorem nms_hit {l:List Nd} {k:Nat} {x:Nd} (hk:k<l.length) (hx:l.getD k noN=x) (h:x.op=2):nmsTo l (k+1)=nmsTo l k ++ [x.name.data.toList]:=by
 unfold nmsTo
 rw [take_snoc l hk,hx,List.filter_append,List.map_append]
 simp [h]
theorem nms_miss {l:List Nd} {k:Nat} {x:Nd} (hk:k<l.length) (hx:l.getD k noN=x) (h:x.op≠2):nmsTo l (k+1)=nmsTo l k:=by
 unfold nmsTo
 rw [take_snoc l hk,hx,List.filter_append,List.map_append]
 simp [h]
theorem nms_len (l:List Nd) (k:Nat):(nmsTo l k).length≤k:=by
 unfold nmsTo
 rw [List.length_map]
 exact Nat.le_trans (List.length_filter_le _ _) (by rw [List.length_take];omega)
def StrsV (w:World) (A:Option Addr) (c:Nat) (L:List (List UInt8)):Prop:=L.length≤c∧c≤9223372036854775807∧(L=[]∨∃ b o,A=some ⟨b,o,none⟩∧b<w.heap.size∧∀ j,j<L.length→w.cell? ⟨b,o+j,none⟩=some (.string ⟨(L.getD j []).toArray⟩))
theorem StrsV.nil (w:World) (A:Option Addr) (c:Nat) (h:c≤9223372036854775807):StrsV w A c []:=⟨Nat.zero_le _,h,Or.inl rfl⟩
theorem StrsV.later {w w':World} {A:Option Addr} {c:Nat} {L:List (List UInt8)} (h:StrsV w A c L) (hB:Below w.heap.size w w'):StrsV w' A c L:=by
 obtain ⟨h1,h2,h3 | ⟨b,o,h3,h4,h5⟩⟩:=h
 ·exact ⟨h1,h2,Or.inl h3⟩
 ·exact ⟨h1,h2,Or.inr ⟨b,o,h3,Nat.lt_of_lt_of_le h4 hB.size,fun j hj=>(hB.cell (p:=⟨b,o+j,none⟩) h4).trans (h5 j hj)⟩⟩
theorem put_off {w:World} {g k:Nat} {d:Array (List UInt8)} (h:k≠g):(putRow encStr w g 0 d).heap[k]?=w.heap[k]?:=by
 unfold putRow Sort.mapBlock
 simp only [Array.getElem?_modify]
 rw [if_neg (fun e=>h e.symm)]
theorem sorted_below {w0 w:World} {g n:Nat} {d:Array (List UInt8)} {os:Array Obj} (h:Below w0.heap.size w0 w) (hg:w0.heap.size≤g):Below w0.heap.size w0 (grow (putRow encStr (Sort.ahead w n) g 0 d) os):=by
 refine ⟨h.os,h.tape,h.output,by have:=h.size;simp;omega,fun k hk=>?_⟩
 have hs:=h.size
 rw [Sort.heap_grow_old _ _ (by simp;omega),put_off (by omega)]
 exact h.block k hk
theorem packed_below {w0 w:World} {g n:Nat} {d:Array (List UInt8)} (h:Below w0.heap.size w0 w) (hg:w0.heap.size≤g):Below w0.heap.size w0 (putRow encStr (Sort.ahead w n) g 0 d):=by
 refine ⟨h.os,h.tape,h.output,by have:=h.size;simp;omega,fun k hk=>?_⟩
 rw [put_off (by omega)]
 exact h.block k hk
theorem compact_len (zs:List (List UInt8)):(Lib.compact zs).length≤zs.length:=by
 unfold Lib.compact Lib.compactUpTo
 rw [List.length_map]
 exact Nat.le_trans (List.length_filter_le _ _) (by simp)
theorem packed_strs {w:World} {g n cap:Nat} {zs:List (List UInt8)} (hH:Holds encStr w g 0 zs.toArray) (hc:zs.length≤cap) (hm:cap≤maxLen) (hg:g<w.heap.size) :
  StrsV (putRow encStr (Sort.ahead w n) g 0 (Lib.compact zs ++ List.replicate (zs.length-(Lib.compact zs).length) []).toArray) (some ⟨g,0,none⟩) cap (Lib.compact zs):=by
 have hl:=compact_len zs
 refine ⟨by omega,by unfold maxLen at hm;omega,Or.inr ⟨g,0,rfl,by simpa using hg,fun j hj=>?_⟩⟩
 have hs:(Lib.compact zs ++ List.replicate (zs.length-(Lib.compact zs).length) []).toArray.size=zs.toArray.size:=by simp;omega
 have h1:=(holds_putRow encStr (Sort.ahead w n) g 0 zs.toArray _ hH hs j (by rw [hs];simp;omega)).1
 rw [h1]
 have e:(Lib.compact zs ++ List.replicate (zs.length-(Lib.compact zs).length) ([]:List UInt8)).toArray[j]! = (Lib.compact zs).getD j []:=by
  rw [getElem!_pos _ j (by rw [hs];simp;omega)]
  simp [List.getD,List.getElem?_eq_getElem hj,List.getElem_append_left hj]
 rw [e]
end Go.Proofs.YtenlladggdcfnaaGreatDoor
namespace Go.Proofs.YtenlladggdcfnaaGreatDoor
inductive Tre where
 | num (n:Int)
 | ref (s:ByteArray)
 | bin (o:Int) (a b:Tre)
def sizT:Tre→Nat
 | .num _=>1
 | .ref _=>1
 | .bin _ a b=>sizT a+sizT b+1
theorem siz_pos:∀ t:Tre,1≤sizT t
 | .num _=>Nat.le_refl _
 | .ref _=>Nat.le_refl _
 | .bin _ a b=>by show 1≤sizT a+sizT b+1;omega
def post:Tre→Nat→List Nd
 | .num n,_=>[⟨1,n,noT,0,0⟩]
 | .ref s,_=>[⟨2,0,s,0,0⟩]
 | .bin o a b,k=>post a k ++ post b (k+sizT a) ++ [⟨o,0,noT,((k+sizT a-1:Nat):Int),((k+sizT a+sizT b-1:Nat):Int)⟩]
theorem post_len:∀ (t:Tre) (k:Nat),(post t k).length=sizT t
 | .num _,_=>rfl
 | .ref _,_=>rfl
 | .bin o a b,k=>by simp [post,sizT,post_len a,post_len b];omega
def brkL (l:List ByteArray) (c:Bool):List ByteArray:=if c then [⟨#[40]⟩] ++ l ++ [⟨#[41]⟩] else l
def pushT (t:Tre) (b:Bld):Bld:=⟨b.nodes ++ post t b.nodes.length,b.ready ++ [((b.nodes.length+sizT t-1:Nat):Int)],b.waiting⟩
def Low (b:Bld) (k:Int):Prop:=b.waiting=[]∨∃ w x,b.waiting=w ++ [x]∧(x=0∨bindN x<k)
theorem Low.up {b:Bld} {k m:Int} (h:Low b k) (hm:k≤m):Low b m:=by
 rcases h with h | ⟨w,x,h,h0 | h0⟩
 ·exact Or.inl h
 ·exact Or.inr ⟨w,x,h,Or.inl h0⟩
 ·exact Or.inr ⟨w,x,h,Or.inr (by omega)⟩
theorem settle_low {b:Bld} {k:Int} (h:Low b k):settleB k b=b:=by
 unfold settleB
 rcases h with h | ⟨w,x,h,h0⟩
 ·rw [h];rfl
 ·rw [h,List.length_append,List.length_singleton]
  have e:b.waiting.getD w.length 0=x:=by rw [h];simp [List.getD]
  exact settle_stop (by rw [e];exact h0)
theorem settle_pop {n:List Nd} {r w:List Int} {o least:Int} (h0:o≠0) (h:least≤bindN o):settleB least ⟨n,r,w ++ [o]⟩=settleB least (joinBd o ⟨n,r,w⟩):=by
 unfold settleB
 have e1:(w ++ [o]).length=w.length+1:=by simp
 have e2:(w ++ [o]).getD w.length 0=o:=by simp [List.getD]
 have e3:(w ++ [o]).take w.length=w:=by simp
 show settleTo least (w ++ [o]).length _=_
 rw [e1,settle_on (by show ¬ ((w ++ [o]).getD w.length 0=0∨bindN ((w ++ [o]).getD w.length 0)<least);rw [e2];omega)]
 show settleTo least w.length (joinBd ((w ++ [o]).getD w.length 0) ⟨n,r,(w ++ [o]).take w.length⟩)=settleTo least (joinBd o ⟨n,r,w⟩).waiting.length _
 rw [e2,e3]
 rfl
theorem join_push (o:Int) (a c:Tre) (b:Bld) (w:List Int):joinBd o ⟨(pushT c ⟨(pushT a b).nodes,(pushT a b).ready,w⟩).nodes,(pushT c ⟨(pushT a b).nodes,(pushT a b).ready,w⟩).ready,b.waiting⟩=pushT (.bin o a c) b:=by
 have l1:(b.nodes ++ post a b.nodes.length).length=b.nodes.length+sizT a:=by simp [post_len]
 have pa:=siz_pos a
 have pc:=siz_pos c
 unfold joinBd pushT addB
 simp only [post,sizT,l1,List.length_append,List.length_singleton,post_len]
 have e1:b.ready.length+1+1-2=b.ready.length:=by omega
 rw [e1]
 have g1:(b.ready ++ [((b.nodes.length+sizT a-1:Nat):Int)] ++ [((b.nodes.length+sizT a+sizT c-1:Nat):Int)]).getD b.ready.length 0=((b.nodes.length+sizT a-1:Nat):Int):=by simp [List.getD]
 have g2:(b.ready ++ [((b.nodes.length+sizT a-1:Nat):Int)] ++ [((b.nodes.length+sizT a+sizT c-1:Nat):Int)]).getD (b.ready.length+1) 0=((b.nodes.length+sizT a+sizT c-1:Nat):Int):=by simp [List.getD]
 have g3:(b.ready ++ [((b.nodes.length+sizT a-1:Nat):Int)] ++ [((b.nodes.length+sizT a+sizT c-1:Nat):Int)]).take b.ready.length=b.ready:=by simp
 rw [g1,g2,g3]
 congr 1
 ·simp [noT]
 ·congr 2
  omega
theorem take_open (b:Bld):takeB b ⟨#[40]⟩=⟨b.nodes,b.ready,b.waiting ++ [0]⟩:=by
 rw [takeB,if_pos (by decide)]
theorem take_close (b:Bld):takeB b ⟨#[41]⟩=⟨(settleB 0 b).nodes,(settleB 0 b).ready,(settleB 0 b).waiting.take ((settleB 0 b).waiting.length-1)⟩:=by
 rw [takeB,if_neg (by decide),if_pos (by decide)]
theorem take_sign (b:Bld) {o:Int} (h:3≤o∧o≤6):takeB b (sgnT o)=⟨(settleB (bindN o) b).nodes,(settleB (bindN o) b).ready,(settleB (bindN o) b).waiting ++ [o]⟩:=by
 have hc:o=3∨o=4∨o=5∨o=6:=by omega
 rcases hc with rfl | rfl | rfl | rfl
 ·rw [takeB,if_neg (by decide),if_neg (by decide),if_pos (by decide)];rfl
 ·rw [takeB,if_neg (by decide),if_neg (by decide),if_pos (by decide)];rfl
 ·rw [takeB,if_neg (by decide),if_neg (by decide),if_pos (by decide)];rfl
 ·rw [takeB,if_neg (by decide),if_neg (by decide),if_pos (by decide)];rfl
theorem low_open (n:List Nd) (r w:List Int) (k:Int):Low ⟨n,r,w ++ [0]⟩ k:=Or.inr ⟨w,0,rfl,Or.inl rfl⟩
theorem low_push {b:Bld} {k:Int} (t:Tre) (h:Low b k):Low (pushT t b) k:=h
theorem take_brk {l:List ByteArray} {t:Tre} {b:Bld} (ih:settleB 0 (l.foldl takeB ⟨b.nodes,b.ready,b.waiting ++ [0]⟩)=settleB 0 (pushT t ⟨b.nodes,b.ready,b.waiting ++ [0]⟩)):(brkL l true).foldl takeB b=pushT t b:=by
 show ([ByteArray.mk #[40]] ++ l ++ [ByteArray.mk #[41]]).foldl takeB b=_
 rw [List.foldl_append,List.foldl_append]
 show takeB (l.foldl takeB (takeB b ⟨#[40]⟩)) ⟨#[41]⟩=_
 rw [take_open,take_close,ih,settle_low (low_push t (low_open _ _ _ _))]
 simp [pushT]
section
variable {S:Type} (s:ByteArray) (tk:S→ByteArray→S)
def runR:Nat→Bool→Rd S→Rd S×Bool
 | 0,_,r=>(r,false)
 | f+1,false,r =>
  if nextB s r.at'=40 then runR f false (wordR s tk 1 ⟨r.at',r.opn+1,r.st⟩)
  else if digB (nextB s r.at') then runR f true (wordR s tk (digitsN s r.at') r)
  else if letB (nextB s r.at') then runR f true (wordR s tk (leadN letB (s.extract r.at' s.size)) r)
  else (r,false)
 | f+1,true,r =>
  if 0<r.opn∧nextB s r.at'=41 then runR f true (wordR s tk 1 ⟨r.at',r.opn-1,r.st⟩)
  else if r.at'<s.size then (if signI (nextB s r.at')<0 then (r,false) else runR f false (wordR s tk 1 r))
  else (r,decide (r.opn=0))
end
section
variable {S:Type} {s:ByteArray} {tk:S→ByteArray→S}
theorem dig_pos {a:Nat} (ha:a≤s.size) (h:digB (nextB s a)=true):1≤digitsN s a∧a+digitsN s a≤s.size:=by
 have hlt:a<s.size:=next_zero (fun e=>by rw [e] at h;revert h;decide) ha
 have h1:=(lead_word (n:=0) hlt h (Nat.zero_le _)).1
 refine ⟨?_,(dig_word (o:=0) ha h).1⟩
 unfold digitsN
 split <;> omega
theorem let_pos {a:Nat} (ha:a≤s.size) (h:letB (nextB s a)=true):1≤leadN letB (s.extract a s.size)∧a+leadN letB (s.extract a s.size)≤s.size:=by
 have hlt:a<s.size:=next_zero (fun e=>by rw [e] at h;revert h;decide) ha
 exact ⟨(lead_word (n:=0) hlt h (Nat.zero_le _)).1,(let_word (o:=0) ha h).1⟩
theorem run_fuel:∀ (f g:Nat) (ph:Bool) (r:Rd S),r.at'≤s.size→s.size-r.at'<f→s.size-r.at'<g→runR s tk f ph r=runR s tk g ph r
 | 0,_,_,_,_,h,_=>by omega
 | _+1,0,_,_,_,_,h=>by omega
 | f+1,g+1,false,r,hr,hf,hg=>by
  rw [runR,runR]
  by_cases h1:nextB s r.at'=40
  ·rw [if_pos h1,if_pos h1]
   have h:=(opn_word (o:=0) hr h1).1
   exact run_fuel f g false _ h (by show s.size-(r.at'+1)<f;omega) (by show s.size-(r.at'+1)<g;omega)
  rw [if_neg h1,if_neg h1]
  by_cases h2:digB (nextB s r.at')=true
  ·rw [if_pos h2,if_pos h2]
   have h:=dig_pos hr h2
   exact run_fuel f g true _ h.2 (by show s.size-(r.at'+digitsN s r.at')<f;omega) (by show s.size-(r.at'+digitsN s r.at')<g;omega)
  rw [if_neg h2,if_neg h2]
  by_cases h3:letB (nextB s r.at')=true
  ·rw [if_pos h3,if_pos h3]
   have h:=let_pos hr h3
   exact run_fuel f g true _ h.2 (by show s.size-(r.at'+leadN letB (s.extract r.at' s.size))<f;omega) (by show s.size-(r.at'+leadN letB (s.extract r.at' s.size))<g;omega)
  rw [if_neg h3,if_neg h3]
 | f+1,g+1,true,r,hr,hf,hg=>by
  rw [runR,runR]
  by_cases h1:0<r.opn∧nextB s r.at'=41
  ·rw [if_pos h1,if_pos h1]
   have h:=(cls_word (o:=0) hr h1.2).1
   exact run_fuel f g true _ h (by show s.size-(r.at'+1)<f;omega) (by show s.size-(r.at'+1)<g;omega)
  rw [if_neg h1,if_neg h1]
  by_cases h2:r.at'<s.size
  ·rw [if_pos h2,if_pos h2]
   by_cases h3:signI (nextB s r.at')<0
   ·rw [if_pos h3,if_pos h3]
   ·rw [if_neg h3,if_neg h3]
    exact run_fuel f g false _ h2 (by show s.size-(r.at'+1)<f;omega) (by show s.size-(r.at'+1)<g;omega)
  ·rw [if_neg h2,if_neg h2]
end
def toEnd {S:Type} (s:ByteArray) (tk:S→ByteArray→S) (ph:Bool) (r:Rd S):Rd S×Bool:=runR s tk (s.size+1) ph r
section
variable {S:Type} {s:ByteArray} {tk:S→ByteArray→S} {r:Rd S}
theorem end_open (hr:r.at'≤s.size) (h:nextB s r.at'=40):toEnd s tk false r=toEnd s tk false (wordR s tk 1 ⟨r.at',r.opn+1,r.st⟩):=by
 have h1:=(opn_word (o:=0) hr h).1
 unfold toEnd
 rw [runR,if_pos h]
 exact run_fuel _ _ _ _ h1 (by show s.size-(r.at'+1)<_;omega) (by show s.size-(r.at'+1)<_;omega)
theorem end_dig (hr:r.at'≤s.size) (h:digB (nextB s r.at')=true):toEnd s tk false r=toEnd s tk true (wordR s tk (digitsN s r.at') r):=by
 have h1:=dig_pos hr h
 have h40:nextB s r.at'≠40:=fun e=>by rw [e] at h;revert h;decide
 unfold toEnd
 rw [runR,if_neg h40,if_pos h]
 exact run_fuel _ _ _ _ h1.2 (by show s.size-(r.at'+digitsN s r.at')<_;omega) (by show s.size-(r.at'+digitsN s r.at')<_;omega)
theorem end_let (hr:r.at'≤s.size) (h:letB (nextB s r.at')=true):toEnd s tk false r=toEnd s tk true (wordR s tk (leadN letB (s.extract r.at' s.size)) r):=by
 have h1:=let_pos hr h
 have h40:nextB s r.at'≠40:=fun e=>by rw [e] at h;revert h;decide
 have hd : ¬ digB (nextB s r.at')=true:=fun e=>by unfold digB at e;unfold letB at h;simp at e h;omega
 unfold toEnd
 rw [runR,if_neg h40,if_neg hd,if_pos h]
 exact run_fuel _ _ _ _ h1.2 (by show s.size-(r.at'+leadN letB (s.extract r.at' s.size))<_;omega) (by show s.size-(r.at'+leadN letB (s.extract r.at' s.size))<_;omega)
theorem end_none (h:nextB s r.at'≠40) (h1:digB (nextB s r.at')=false) (h2:letB (nextB s r.at')=false):toEnd s tk false r=(r,false):=by
 unfold toEnd
 rw [runR,if_neg h,if_neg (by rw [h1];decide),if_neg (by rw [h2];decide)]
theorem end_close (hr:r.at'≤s.size) (h:0<r.opn∧nextB s r.at'=41):toEnd s tk true r=toEnd s tk true (wordR s tk 1 ⟨r.at',r.opn-1,r.st⟩):=by
 have h1:=(cls_word (o:=0) hr h.2).1
 unfold toEnd
 rw [runR,if_pos h]
 exact run_fuel _ _ _ _ h1 (by show s.size-(r.at'+1)<_;omega) (by show s.size-(r.at'+1)<_;omega)
theorem end_sign (h : ¬ (0<r.opn∧nextB s r.at'=41)) (hlt:r.at'<s.size) (hs : ¬ signI (nextB s r.at')<0):toEnd s tk true r=toEnd s tk false (wordR s tk 1 r):=by
 have e:runR s tk (s.size+1) true r=runR s tk s.size false (wordR s tk 1 r):=by rw [runR,if_neg h,if_pos hlt,if_neg hs]
 unfold toEnd
 rw [e]
 exact run_fuel _ _ _ _ hlt (by show s.size-(r.at'+1)<_;omega) (by show s.size-(r.at'+1)<_;omega)
theorem end_bad (h : ¬ (0<r.opn∧nextB s r.at'=41)) (hlt:r.at'<s.size) (hs:signI (nextB s r.at')<0):toEnd s tk true r=(r,false):=by
 unfold toEnd
 rw [runR,if_neg h,if_pos hlt,if_pos hs]
theorem end_end (h : ¬ (0<r.opn∧nextB s r.at'=41)) (hlt : ¬ r.at'<s.size):toEnd s tk true r=(r,decide (r.opn=0)):=by
 unfold toEnd
 rw [runR,if_neg h,if_neg hlt]
theorem end_opens:∀ (f:Nat) (r:Rd S),r.at'≤s.size→toEnd s tk false r=toEnd s tk false (opensR s tk f r)
 | 0,_,_=>rfl
 | f+1,r,hr=>by
  rw [opensR]
  split
  ·rename_i h
   rw [end_open hr h]
   exact end_opens f _ (opn_word (o:=0) hr h).1
  ·rfl
theorem opened_ne:∀ (f:Nat) (r:Rd S),r.at'≤s.size→s.size-r.at'≤f→nextB s (opensR s tk f r).at'≠40
 | 0,r,hr,hf=>by
  have e:r.at'=s.size:=by omega
  rw [opensR,e,nextB,if_pos rfl]
  decide
 | f+1,r,hr,hf=>by
  rw [opensR]
  split
  ·rename_i h
   have h1:=(opn_word (o:=0) hr h).1
   exact opened_ne f _ h1 (by show s.size-(r.at'+1)≤f;omega)
  ·rename_i h;exact h
theorem end_closes:∀ (f:Nat) (r:Rd S),r.at'≤s.size→toEnd s tk true r=toEnd s tk true (closesR s tk f r)
 | 0,_,_=>rfl
 | f+1,r,hr=>by
  rw [closesR]
  split
  ·rename_i h
   rw [end_close hr h]
   exact end_closes f _ (cls_word (o:=0) hr h.2).1
  ·rfl
theorem closed_ne:∀ (f:Nat) (r:Rd S),r.at'≤s.size→s.size-r.at'≤f→¬ (0<(closesR s tk f r).opn∧nextB s (closesR s tk f r).at'=41)
 | 0,r,hr,hf=>by
  have e:r.at'=s.size:=by omega
  rw [closesR,e,nextB,if_pos rfl]
  intro h
  exact absurd h.2 (by decide)
 | f+1,r,hr,hf=>by
  rw [closesR]
  split
  ·rename_i h
   have h1:=(cls_word (o:=0) hr h.2).1
   exact closed_ne f _ h1 (by show s.size-(r.at'+1)≤f;omega)
  ·rename_i h;exact h
theorem end_operand (hr:r.at'≤s.size):((operandR s tk r).2=true∧toEnd s tk false r=toEnd s tk true (operandR s tk r).1∧¬ (0<(operandR s tk r).1.opn∧nextB s (operandR s tk r).1.at'=41))∨((operandR s tk r).2=false∧toEnd s tk false r=((operandR s tk r).1,false)):=by
 have ho:(openedR s tk r).at'≤s.size:=opens_in _ r hr
 have e0:toEnd s tk false r=toEnd s tk false (openedR s tk r):=end_opens _ r hr
 have hne:nextB s (openedR s tk r).at'≠40:=opened_ne _ r hr (Nat.le_refl _)
 cases hd:digB (nextB s (openedR s tk r).at')
 ·cases hl:letB (nextB s (openedR s tk r).at')
  ·right
   have e:=opnd_no (s:=s) (tk:=tk) (r:=r) hd hl
   rw [e]
   exact ⟨rfl,by rw [e0];exact end_none hne hd hl⟩
  ·left
   have e:=opnd_let (s:=s) (tk:=tk) (r:=r) hd hl
   rw [e]
   have h1:=let_pos ho hl
   refine ⟨rfl,?_,closed_ne _ _ h1.2 (by omega)⟩
   rw [e0,end_let ho hl]
   exact end_closes _ _ h1.2
 ·left
  have e:=opnd_dig (s:=s) (tk:=tk) (r:=r) hd
  rw [e]
  have h1:=dig_pos ho hd
  refine ⟨rfl,?_,closed_ne _ _ h1.2 (by omega)⟩
  rw [e0,end_dig ho hd]
  exact end_closes _ _ h1.2
theorem end_loop:∀ (f:Nat) (r:Rd S),r.at'≤s.size→s.size-r.at'≤f→¬ (0<r.opn∧nextB s r.at'=41)→toEnd s tk true r=if (loopR s tk f r).2 then ((loopR s tk f r).1,decide ((loopR s tk f r).1.opn=0)) else ((loopR s tk f r).1,false)
 | 0,r,hr,hf,hc=>by
  rw [loopR,if_pos rfl]
  exact end_end hc (by omega)
 | f+1,r,hr,hf,hc=>by
  by_cases hlt:r.at'<s.size
  ·by_cases hs:signI (nextB s r.at')<0
   ·have e:signR s tk r=(r,false):=by rw [signR,if_pos hs]
    rw [loop_sgn hlt (by rw [e]),e,if_neg (fun e=>Bool.noConfusion e)]
    exact end_bad hc hlt hs
   ·have e:signR s tk r=(wordR s tk 1 r,true):=by rw [signR,if_neg hs]
    have h1:(wordR s tk 1 r).at'≤s.size:=hlt
    rw [end_sign hc hlt hs]
    rcases end_operand (tk:=tk) h1 with ⟨g1,g2,g3⟩ | ⟨g1,g2⟩
    ·rw [loop_on hlt (by rw [e]) (by rw [e];exact g1),e,g2]
     have hat:=operand_at (s:=s) (tk:=tk) (wordR s tk 1 r)
     have hw:(wordR s tk 1 r).at'=r.at'+1:=rfl
     exact end_loop f _ (operand_in _ h1) (by omega) g3
    ·rw [loop_opd hlt (by rw [e]) (by rw [e];exact g1),e,if_neg (fun e=>Bool.noConfusion e)]
     exact g2
  ·rw [loop_end hlt,if_pos rfl]
   exact end_end hc hlt
theorem all_end_eq (hr:r.at'≤s.size):allR s tk r=toEnd s tk false r:=by
 rcases end_operand (tk:=tk) hr with ⟨g1,g2,g3⟩ | ⟨g1,g2⟩
 ·rw [g2,end_loop s.size _ (operand_in _ hr) (by omega) g3]
  unfold allR
  rw [if_pos g1]
 ·rw [g2,all_no g1]
end
theorem leadTo_exact {q:Int→Bool} {t:ByteArray} {m:Nat} (h1:∀ i,i<m→q (byteN t i)=true) (h2:m=t.size∨q (byteN t m)=false):∀ (f i:Nat),i≤m→i+f=t.size→leadTo q t f i=m
 | 0,i,hi,hf=>by
  rcases h2 with h2 | h2
  ·show i=m;omega
  ·by_cases e:i=m
   ·exact e
   ·have:=h1 i (by omega)
    show i=m
    exfalso
    have hz:byteN t i=0:=by
     unfold byteN
     have e2:t.size=t.data.toList.length:=Array.length_toList.symm
     rw [List.getD,List.getElem?_eq_none (by omega)]
     rfl
    have hz2:byteN t m=0:=by
     unfold byteN
     have e2:t.size=t.data.toList.length:=Array.length_toList.symm
     rw [List.getD,List.getElem?_eq_none (by omega)]
     rfl
    rw [hz] at this
    rw [hz2,this] at h2
    cases h2
 | f+1,i,hi,hf=>by
  by_cases e:i=m
  ·rcases h2 with h2 | h2
   ·omega
   ·rw [leadTo,e,if_neg (by rw [h2];decide)]
  ·rw [leadTo,if_pos (h1 i (by omega))]
   exact leadTo_exact h1 h2 f (i+1) (by omega) (by omega)
end Go.Proofs.YtenlladggdcfnaaGreatDoor
namespace Go.Proofs.YtenlladggdcfnaaGreatDoor
open Go.ChangeShapes Go.WideShapes Go.ChangeAt Go.RowKit
set_option maxRecDepth 20000
theorem news5 {w:World} {x:Nd} {n:Nat} (hn:w.heap.size=n):∀ j u,(cellsNd1 x)[j]?=some u→(w.alloc (.cells #[.int .i64 x.op,.int .i64 x.n,.string x.name,.int .i64 x.left,.int .i64 x.right] 172)).cell? ((⟨n,0,none⟩:Addr).add j)=some u:=by
 subst hn
 exact World.news_of_block (cs := #[.int .i64 x.op,.int .i64 x.n,.string x.name,.int .i64 x.left,.int .i64 x.right]) (t:=172) (fr:=(0,0)) (heap_alloc_new _ _)
theorem ones5 {x:Nd}:∀ u∈cellsNd1 x,u.oneCell'=true:=by intro u hu;simp [cellsNd1] at hu;rcases hu with rfl | rfl | rfl | rfl | rfl <;> rfl
theorem name_empty {s:ByteArray} (h:s.size=0):s=noT:=by
 obtain ⟨d⟩:=s
 have:d=#[]:=Array.eq_empty_of_size_eq_zero h
 subst this
 rfl
end Go.Proofs.YtenlladggdcfnaaGreatDoor
namespace Go.Proofs.YtenlladggdcfnaaGreatDoor
open Go.ChangeShapes Go.WideShapes Go.ChangeAt Go.RowKit Go.Lib
set_option maxRecDepth 20000
theorem clr_in {l:List En} {p:List Int} (h:hasE l p=true):cntE l p<l.length:=(set_old h 0).2.1
end Go.Proofs.YtenlladggdcfnaaGreatDoor
namespace Go.Proofs.YtenlladggdcfnaaGreatDoor
open Go Go.ChangeShapes Go.WideShapes Go.ChangeAt Go.RowKit Go.Deep
set_option maxRecDepth 100000
theorem open_list {H:Type} {enc:TypeId×Value→H} {w:World} {held:Bool} {r:Reach} {b0:Nat} {v:Value} {d:DataW H} {p:List MemPlace} (hv:Value.okWide Tryz.prog w r b0 22 v) (h:DataW.Trod enc Tryz.prog w 0 (fun _=>true) held 22 v d p) :
  ∃ (Ap:Option Addr) (cp:Nat) (L:List Int),v=.slice Ap L.length cp∧PlAt w Ap cp L:=by
 obtain ⟨a,len,cap,rfl⟩:=okWide_slice Tryz.underlying22 hv
 obtain ⟨fuel,hf⟩:=h
 have hf':DataW.trod enc Tryz.prog w 0 (fun _=>true) held fuel 22 [.slice a len cap]=some (d,p):=hf
 rcases open_ints Tryz.underlying22 Tryz.underlying3 (by kernel_rfl) hf' with ⟨e,_⟩ | ⟨a',len',cap',zs,e,_,hl,_,hzl,_,hc,_⟩
 ·simp at e
  obtain ⟨rfl,rfl,rfl⟩:=e
  exact ⟨none,0,[],rfl,PlAt.nil _ _ _⟩
 ·simp at e hzl
  obtain ⟨rfl,rfl,rfl⟩:=e
  have hlen:(zs.take len).length=len:=by simp;omega
  refine ⟨some a',cap,zs.take len,by rw [hlen],by rw [hlen];exact hl,?_⟩
  rcases Nat.eq_zero_or_pos len with h0 | h0
  ·left
   subst h0
   simp
  right
  have c0:=hc 0 (by omega)
  have hp:=addr_plain c0 rfl
  have hb:=World.block_lt_of_cell? _ _ c0
  refine ⟨a'.block,a'.off,by rw [←hp],by simpa [Addr.add] using hb,fun j hj=>?_⟩
  rw [hlen] at hj
  have:=hc j (by omega)
  rw [hp,plain_add] at this
  rw [this]
  simp [List.getD,hj]
end Go.Proofs.YtenlladggdcfnaaGreatDoor
