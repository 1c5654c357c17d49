/-
  An entry found among those that rise: what slices.BinarySearchFunc and find answer, called in whatever memory.
-/
import Derived.Test.YtigkeokacagabafGreatDoorJYAQ
import Derived.Test.YtigkeokacagabafGreatDoorJYAS
namespace Go.Proofs.YtigkeokacagabafGreatDoor
open Go.ChangeShapes Go.WideShapes Go.ChangeAt Go.RowKit
set_option maxRecDepth 20000
def Short (xs:List EnL) (p:List Int):Prop:=(∀ k,k<xs.length→(xs.getD k noL).e.pl.length≤4)∧p.length≤4
end Go.Proofs.YtigkeokacagabafGreatDoor
namespace Go.Proofs.YtigkeokacagabafGreatDoor
open Go.ChangeShapes Go.WideShapes Go.ChangeAt Go.RowKit
theorem tdiv_ab (x y:Int):x.tdiv y=if (decide (x<0) != decide (y<0))=true then -(ab x / ab y) else ab x / ab y:=by
 unfold ab
 by_cases hx:x<0 <;> by_cases h:y<0
 ·rw [if_neg (by simp [hx,h]),if_pos hx,if_pos h]
  rw [←Int.tdiv_eq_ediv_of_nonneg (by omega),Int.neg_tdiv,Int.tdiv_neg,Int.neg_neg]
 ·rw [if_pos (by simp [hx,h]),if_pos hx,if_neg h]
  rw [←Int.tdiv_eq_ediv_of_nonneg (by omega),Int.neg_tdiv,Int.neg_neg]
 ·rw [if_pos (by simp [hx,h]),if_neg hx,if_pos h]
  rw [←Int.tdiv_eq_ediv_of_nonneg (by omega),Int.tdiv_neg,Int.neg_neg]
 ·rw [if_neg (by simp [hx,h]),if_neg hx,if_neg h]
  rw [←Int.tdiv_eq_ediv_of_nonneg (by omega)]
theorem rover_zero (ka na kb:Int) (w:World) (q1:(ka == 2)=false) (q2:(kb == 2)=false) (q3:(ka == 0)=false) (q4:(kb == 0)=false) :
  Calls Tryz.prog 115 #[.agg #[.int .i64 ka,.int .i64 na],.agg #[.int .i64 kb,.int .i64 0]] w fun e w'=>e=.returned (.agg #[.int .i64 2,.int .i64 0])∧Below w.heap.size w w':=by
 go_enter Tryz.func115,Tryz.ntmps115
 go_wp2
 go_returns
 exact ⟨rfl,by go_grown⟩
set_option maxHeartbeats 1000000 in
theorem rover_made (ka na kb nb:Int) (w:World) (q1:(ka == 2)=false) (q2:(kb == 2)=false) (q3:(ka == 0)=false) (q4:(kb == 0)=false) (a1 : -1000000000000≤na) (a2:na≤1000000000000) (b1 : -1000000000000≤nb) (b2:nb≤1000000000000) (h0:(nb == 0)=false) (hy : ¬ nb=0) :
  Calls Tryz.prog 115 #[.agg #[.int .i64 ka,.int .i64 na],.agg #[.int .i64 kb,.int .i64 nb]] w fun e w'=>e=.returned (.agg #[.int .i64 (ofP (na.tdiv nb)).1,.int .i64 (ofP (na.tdiv nb)).2])∧Below w.heap.size w w':=by
 obtain ⟨ax0,ax1⟩:=ab_in a1 a2
 obtain ⟨_,ay1⟩:=ab_in b1 b2
 have ay0:=ab_pos hy
 have hsx:=rsize_any na
 have hsy:=rsize_any nb
 have hq0:0≤ab na / ab nb:=Int.ediv_nonneg ax0 (by omega)
 have hq1:ab na / ab nb≤1000000000000:=Int.le_trans (Int.ediv_le_self _ ax0) ax1
 rw [tdiv_ab]
 by_cases hsg:(decide (na<0) != decide (nb<0))=true
 ·rw [if_pos hsg]
  have hs1:(decide (na<0) == decide (nb<0))=false:=by simpa using hsg
  clear hsg
  have ho:=rof_any (-(ab na / ab nb))
  go_enter Tryz.func115,Tryz.ntmps115
  go_wp2_with fail
  go_quiet (first | (go_at_call_of 153 na;exact Calls.quiet_of_same (hsx _ a1 a2)) | (go_at_call_of 153 nb;exact Calls.quiet_of_same (hsy _ b1 b2)))
  go_wp2_with fail
  refine (ho _).mono ?_
  rintro e w1 ⟨rfl,hb⟩
  have hB:Below w.heap.size w w1:=Below.trans (below_drewN (by go_grown) _) (hb.mono (by show _≤(World.alloc _ _).heap.size;simp;omega))
  obtain ⟨hc,hf⟩:=bcell hb
  have hz:=bsize hb
  simp at hz
  go_wp2_with fail
  refine bodyPost_ret (v:=.agg #[.int .i64 (ofP (-(ab na / ab nb))).1,.int .i64 (ofP (-(ab na / ab nb))).2]) (by simp [results,Tryz.results115,go_sem,hc]) rfl ⟨rfl,?_⟩
  go_grown
 ·rw [if_neg hsg]
  have hs1:(decide (na<0) == decide (nb<0))=true:=by simpa using hsg
  clear hsg
  have ho:=rof_any (ab na / ab nb)
  go_enter Tryz.func115,Tryz.ntmps115
  go_wp2_with fail
  go_quiet (first | (go_at_call_of 153 na;exact Calls.quiet_of_same (hsx _ a1 a2)) | (go_at_call_of 153 nb;exact Calls.quiet_of_same (hsy _ b1 b2)))
  go_wp2_with fail
  refine (ho _).mono ?_
  rintro e w1 ⟨rfl,hb⟩
  have hB:Below w.heap.size w w1:=Below.trans (below_drewN (by go_grown) _) (hb.mono (by show _≤(World.alloc _ _).heap.size;simp;omega))
  obtain ⟨hc,hf⟩:=bcell hb
  have hz:=bsize hb
  simp at hz
  go_wp2_with fail
  refine bodyPost_ret (v:=.agg #[.int .i64 (ofP (ab na / ab nb)).1,.int .i64 (ofP (ab na / ab nb)).2]) (by simp [results,Tryz.results115,go_sem,hc]) rfl ⟨rfl,?_⟩
  go_grown
theorem rover_any (ka na kb nb:Int) (ha:good ka na=true) (hb:good kb nb=true):RefTo 115 #[.agg #[.int .i64 ka,.int .i64 na],.agg #[.int .i64 kb,.int .i64 nb]] (overP ka na kb nb):=by
 obtain ⟨a1,a2⟩:=good_bd ha
 obtain ⟨b1,b2⟩:=good_bd hb
 intro w
 unfold overP joinP
 by_cases h2:ka=2∨kb=2
 ·rw [if_pos h2]
  exact rover_fault ka na kb nb w h2
 ·rw [if_neg h2]
  by_cases h0:ka=0∨kb=0
  ·rw [if_pos (by simp;omega)]
   exact rover_blank ka na kb nb w (bool2 (by omega)) (bool2 (by omega)) h0
  ·rw [if_neg (by simp;omega)]
   unfold quoP
   by_cases hy:nb=0
   ·subst hy
    rw [if_pos rfl]
    exact rover_zero ka na kb w (bool2 (by omega)) (bool2 (by omega)) (bool0 (by omega)) (bool0 (by omega))
   ·rw [if_neg hy]
    exact rover_made ka na kb nb w (bool2 (by omega)) (bool2 (by omega)) (bool0 (by omega)) (bool0 (by omega)) a1 a2 b1 b2 (bool0 hy) hy
end Go.Proofs.YtigkeokacagabafGreatDoor
namespace Go.Proofs.YtigkeokacagabafGreatDoor
open Go.ChangeShapes Go.WideShapes Go.ChangeAt Go.RowKit
open Go.Sort (putRow Holds grow holds_putRow)
set_option maxRecDepth 20000
def NdsT (w:World) (A:Option Addr) (c:Nat) (L:List Nd):Prop:=NdsV w A c L∧(L=[]∨∃ b o cs fr,A=some ⟨b,o,none⟩∧w.heap[b]?=some (.cells cs 181 fr))
theorem NdsT.nil (w:World) (A:Option Addr) (c:Nat) (h:c≤9223372036854775807):NdsT w A c []:=⟨NdsV.nil w A c h,Or.inl rfl⟩
theorem NdsT.keep {w w':World} {A:Option Addr} {c:Nat} {L:List Nd} (h:NdsT w A c L) (hB:∀ (b:Nat) (cs:Array Value) (fr:Nat×Nat),w.heap[b]?=some (Obj.cells cs 181 fr)→w'.heap[b]?=w.heap[b]?):NdsT w' A c L:=by
 obtain ⟨⟨h1,h2,h3⟩,h4⟩:=h
 rcases h4 with h4 | ⟨b,o,cs,fr,hA,hb⟩
 ·exact ⟨⟨h1,h2,Or.inl h4⟩,Or.inl h4⟩
 ·have he:=hB b cs fr hb
  refine ⟨⟨h1,h2,?_⟩,Or.inr ⟨b,o,cs,fr,hA,he.trans hb⟩⟩
  rcases h3 with h3 | ⟨b',o',hA',h5,h6⟩
  ·exact Or.inl h3
  ·rw [hA] at hA'
   cases hA'
   refine Or.inr ⟨b,o,hA,(Array.getElem?_eq_some_iff.1 (he.trans hb)).1,fun k hk=>?_⟩
   obtain ⟨x0,x1,x2,x3,x4⟩:=h6 k hk
   exact ⟨(World.cell?_of_block (a:=⟨b,_,none⟩) he).trans x0,(World.cell?_of_block (a:=⟨b,_,none⟩) he).trans x1,(World.cell?_of_block (a:=⟨b,_,none⟩) he).trans x2,(World.cell?_of_block (a:=⟨b,_,none⟩) he).trans x3,(World.cell?_of_block (a:=⟨b,_,none⟩) he).trans x4⟩
theorem NdsT.later {w w':World} {A:Option Addr} {c:Nat} {L:List Nd} (h:NdsT w A c L) (hB:Below w.heap.size w w'):NdsT w' A c L :=
 h.keep fun b _ _ hb=>hB.block b (Array.getElem?_eq_some_iff.1 hb).1
theorem ndsT_of {w:World} {N:Nat} {A:Option Addr} {c:Nat} {l:List Nd} (h:w.ownsRow N 181 5 (.slice A l.length c) l.length (cellsN l)):NdsT w A c l:=by
 refine ⟨nds_of h,?_⟩
 rcases h.2 with ⟨h0,h1⟩ | ⟨g,cap,cur,h0,hb,hg,-⟩
 ·exact Or.inl (List.eq_nil_of_length_eq_zero h1)
 ·cases h0
  exact Or.inr ⟨g,0,_,_,rfl,hg⟩
def StrT (w:World) (A:Option Addr) (c:Nat) (L:List (List UInt8)):Prop:=StrsV w A c L∧(L=[]∨∃ b o cs fr,A=some ⟨b,o,none⟩∧w.heap[b]?=some (.cells cs 9 fr))
theorem StrT.nil (w:World) (A:Option Addr) (c:Nat) (h:c≤9223372036854775807):StrT w A c []:=⟨StrsV.nil w A c h,Or.inl rfl⟩
theorem StrT.keep {w w':World} {A:Option Addr} {c:Nat} {L:List (List UInt8)} (h:StrT w A c L) (hB:∀ (b:Nat) (cs:Array Value) (fr:Nat×Nat),w.heap[b]?=some (Obj.cells cs 9 fr)→w'.heap[b]?=w.heap[b]?):StrT w' A c L:=by
 obtain ⟨⟨h1,h2,h3⟩,h4⟩:=h
 rcases h4 with h4 | ⟨b,o,cs,fr,hA,hb⟩
 ·exact ⟨⟨h1,h2,Or.inl h4⟩,Or.inl h4⟩
 ·have he:=hB b cs fr hb
  refine ⟨⟨h1,h2,?_⟩,Or.inr ⟨b,o,cs,fr,hA,he.trans hb⟩⟩
  rcases h3 with h3 | ⟨b',o',hA',h5,h6⟩
  ·exact Or.inl h3
  ·rw [hA] at hA'
   cases hA'
   exact Or.inr ⟨b,o,hA,(Array.getElem?_eq_some_iff.1 (he.trans hb)).1,fun k hk=>(World.cell?_of_block (a:=⟨b,_,none⟩) he).trans (h6 k hk)⟩
theorem StrT.later {w w':World} {A:Option Addr} {c:Nat} {L:List (List UInt8)} (h:StrT w A c L) (hB:Below w.heap.size w w'):StrT w' A c L :=
 h.keep fun b _ _ hb=>hB.block b (Array.getElem?_eq_some_iff.1 hb).1
theorem put_ty {w:World} {g n:Nat} {d:Array (List UInt8)} {cs:Array Value} {T:Nat} {fr:Nat×Nat} (h:w.heap[g]?=some (.cells cs T fr)):∃ cs' fr',(putRow encStr (Sort.ahead w n) g 0 d).heap[g]?=some (.cells cs' T fr'):=by
 unfold putRow Sort.mapBlock
 have h':(Sort.ahead w n).heap[g]?=some (.cells cs T fr):=h
 simp only [Array.getElem?_modify,if_true,h',Option.map_some]
 exact ⟨_,_,rfl⟩
theorem grown_ty {w:World} {g T:Nat} {os:Array Obj} (h:∃ cs fr,w.heap[g]?=some (.cells cs T fr)):∃ cs fr,(grow w os).heap[g]?=some (.cells cs T fr):=by
 obtain ⟨cs,fr,h⟩:=h
 exact ⟨cs,fr,by rw [Sort.heap_grow_old _ _ (Array.getElem?_eq_some_iff.1 h).1];exact h⟩
set_option maxHeartbeats 1000000 in
theorem ball_typ (N p:Nat) (b:Bld) (w:World) (hN:N≤w.heap.size) (h1:b.nodes.length+opsN b.waiting≤200) (h2:b.ready.length≤200) (h3:opsN b.waiting+1≤b.ready.length) (h4:b.waiting.length≤200) (hB:BldAt N p b w) :
  Calls Tryz.prog 182 #[.pointer (some ⟨p,0,none⟩)] w fun e w'=>(∃ A c,e=.returned (.slice A (settleB 0 b).nodes.length c)∧NdsT w' A c (settleB 0 b).nodes)∧Kept N (fun k=>k=p) w w':=by
 have h:=settle_any N p b 0 w hN h1 h2 h3 h4 hB
 generalize settleB 0 b=b1 at *
 clear hB
 go_enter Tryz.func182,Tryz.ntmps182
 go_wp2_with fail
 refine h.mono ?_
 rintro e w1 ⟨rfl,⟨AN,cN,AR,cR,AW,cW,hV⟩,hK⟩
 have c0:=hV.c0
 have HN:Hid (NdsT w1 AN cN b1.nodes):=ndsT_of hV.nod
 have HK:Hid (Kept N (fun k=>k=p) w w1):=hK
 clear hV hK h
 go_wp2_with fail
 go_ret
 exact ⟨⟨_,_,rfl,HN.out⟩,HK.out⟩
set_option maxHeartbeats 4000000 in
theorem fparse_typ (s:ByteArray) (w:World) (h100:s.size≤100):Calls Tryz.prog 141 #[.string s] w fun e w'=>(∃ A c,e=.returned (.tuple #[.slice A (prsL s).length c,.int .i64 (prsA s:Int),errV (prsE s)])∧NdsT w' A c (prsL s))∧Below w.heap.size w w':=by
 have hmf:∀ (fn:Fn) (first cap:Array Value) (w:World),(Instr.makeFunc fn first cap).run Tryz.prog w=.ok (.func fn first cap) w:=fun _ _ _ _=>rfl
 have h100':(s.size:Int)≤100:=by omega
 have HAt:Hid ((goneB s).1.at'≤s.size):=all_in _ (Nat.zero_le _)
 have hrd:=fread_any (tkB (w.heap.size+4) w.heap.size) (tkB_ok _ _) s noB (newB w) (by show s.size≤100;exact h100) (by rw [newB_size];rfl) (by rw [newB_size];exact Nat.lt_succ_self _) (newB_at w) fit_new (goneB s) rfl
 have HB:Hid (Below w.heap.size w (newB w)):=newB_below w
 obtain ⟨W,hW⟩:∃ W,newB w=W:=⟨_,rfl⟩
 have HZ:Hid ((newB w).heap.size=w.heap.size+1):=newB_size w
 rw [hW] at hrd HB HZ
 unfold newB at hW
 have hfv:(tkB (w.heap.size+4) w.heap.size).fv=.func (.func 179) #[.pointer (some ⟨w.heap.size,0,none⟩)] #[]:=rfl
 rw [hfv] at hrd
 have HI:Hid (∀ st w',(tkB (w.heap.size+4) w.heap.size).I st w'→BldAt (w.heap.size+4) w.heap.size st w'):=fun _ _ h=>h
 have HG:Hid (∀ a o ph st,(tkB (w.heap.size+4) w.heap.size).G a o ph st→FitB a o ph st):=fun _ _ _ _ h=>h
 have HP:Hid ((tkB (w.heap.size+4) w.heap.size).p=w.heap.size∧(tkB (w.heap.size+4) w.heap.size).N=w.heap.size+4):=⟨rfl,rfl⟩
 generalize tkB (w.heap.size+4) w.heap.size=T at *
 cases hx:(goneB s).2
 ·have hE:prsE s=2:=by unfold prsE;rw [if_neg (by omega),if_neg (by rw [hx];decide)]
  have hA:prsA s=(goneB s).1.at':=by unfold prsA;rw [if_neg (by omega),if_neg (by rw [hx];decide)]
  have hL:prsL s=[]:=by unfold prsL;rw [if_neg (by rw [hE];decide)]
  rw [hE,hA,hL,errV_some (by decide)]
  have HX:Hid ((goneB s).2=false):=hx
  clear hE hA hL hx
  go_enter Tryz.func141,Tryz.ntmps141
  go_wp2_with fail
  refine hrd.mono ?_
  rintro e w1 ⟨⟨hk,-⟩,⟨h1,-⟩ | ⟨-,rfl⟩⟩
  ·exact absurd (HX.out.symm.trans h1) (by decide)
  have HB1:Hid (Below w.heap.size w w1):=below_of_kept HB.out hk (by rw [HP.out.1];exact Nat.le_refl _)
  rw [errV_some (by decide)]
  clear hk hrd
  go_wp2_with fail
  go_returns
  exact ⟨⟨none,0,rfl,NdsT.nil _ _ _ (by omega)⟩,HB1.out⟩
 ·have hE:prsE s=formErr (nodesP s):=by unfold prsE;rw [if_neg (by omega),if_pos hx]
  have hA:prsA s=0:=by unfold prsA;rw [if_neg (by omega),if_pos hx]
  have HX:Hid ((goneB s).2=true):=hx
  have HE:Hid (prsE s=formErr (nodesP s)):=hE
  have HLd:Hid (prsL s=if prsE s=0 then nodesP s else []):=rfl
  have HNd:Hid (nodesP s=(settleB 0 (goneB s).1.st).nodes):=rfl
  rw [hE,hA]
  clear hE hA hx
  go_enter Tryz.func141,Tryz.ntmps141
  go_wp2_with fail
  refine hrd.mono ?_
  rintro e w1 ⟨⟨hk,hz1⟩,⟨-,rfl,hI,hG⟩ | ⟨h1,-⟩⟩
  case inr=>exact absurd (HX.out.symm.trans h1) (by decide)
  have HB1:Hid (Below w.heap.size w w1):=below_of_kept HB.out hk (by rw [HP.out.1];exact Nat.le_refl _)
  obtain ⟨f1,f2,f3,f4,f5⟩:=HG.out _ _ _ _ hG
  simp only [if_true] at f2
  rw [HP.out.2] at hz1
  have hat:(goneB s).1.at'≤200:=by have:=HAt.out;omega
  have hal:=ball_typ (w.heap.size+4) w.heap.size (goneB s).1.st w1 hz1 (by omega) (by omega) f2 (by omega) (HI.out _ _ hI)
  clear hk hrd hI hG f1 f2 f3 f4 f5
  rw [←HNd.out] at hal
  obtain ⟨L,hLn⟩:∃ L,nodesP s=L:=⟨_,rfl⟩
  have HLn:Hid (nodesP s=L):=hLn
  rw [hLn] at hal HE HLd
  clear hLn
  go_wp2_with fail
  refine hal.mono ?_
  rintro e w2 ⟨⟨A,c,rfl,hN2⟩,hk2⟩
  have HB2:Hid (Below w.heap.size w w2):=⟨hk2.os.trans HB1.out.os,hk2.tape.trans HB1.out.tape,hk2.output.trans HB1.out.output,Nat.le_trans HB1.out.size hk2.size,fun k hk'=>by rw [hk2.block k (by omega) (by omega)];exact HB1.out.block k hk'⟩
  have HN2:Hid (NdsT w2 A c L):=hN2
  have hck:=fchk_any A c L w2 hN2.1
  clear hk2 hN2 hal
  by_cases h0:formErr L=0
  ·have HL:Hid (prsL s=L):=by show _=_;rw [HLd.out,HE.out,if_pos h0]
   rw [h0,errV_zero] at hck
   have HF:Hid (formErr L=0):=h0
   clear h0
   go_wp2_with fail
   refine hck.mono ?_
   rintro e w3 ⟨rfl,hb3⟩
   have HB3:Hid (Below w.heap.size w w3):=onB HB2.out hb3
   have HN3:Hid (NdsT w3 A c L):=HN2.out.later hb3
   clear hb3 hck
   go_wp2_with fail
   go_returns
   exact ⟨⟨A,c,by rw [HL.out,HLn.out,HF.out];rfl,by rw [HL.out];exact HN3.out⟩,HB3.out⟩
  ·have HL:Hid (prsL s=[]):=by show _=_;rw [HLd.out,HE.out,if_neg h0]
   rw [errV_some h0] at hck
   have HF:Hid (errV (formErr L)=.iface 77 (.int .i64 (formErr L))):=errV_some h0
   clear h0
   go_wp2_with fail
   refine hck.mono ?_
   rintro e w3 ⟨rfl,hb3⟩
   have HB3:Hid (Below w.heap.size w w3):=onB HB2.out hb3
   clear hb3 hck
   go_wp2_with fail
   go_returns
   exact ⟨⟨none,0,by rw [HL.out,HLn.out,HF.out];rfl,by rw [HL.out];exact NdsT.nil _ _ _ (by omega)⟩,HB3.out⟩
set_option maxHeartbeats 4000000 in
theorem frefs_typ (A:Option Addr) (cap:Nat) (l:List Nd) (w:World) (hN:NdsV w A cap l):Calls Tryz.prog 142 #[.slice A l.length cap] w fun e w'=>(∃ A' c',e=.returned (.tuple #[.slice A' (refsP l).length c',errV (formErr l)])∧StrT w' A' c' (refsP l))∧Below w.heap.size w w':=by
 have hck:=fchk_any A cap l w hN
 obtain ⟨i0,hi0,hz0,hz1,hz2⟩:=info_parts Tryz.infoStrF
 by_cases h0:formErr l=0
 case neg =>
  have hP:refsP l=[]:=by unfold refsP;rw [if_neg h0]
  rw [hP]
  rw [errV_some h0] at hck ⊢
  clear h0 hP
  go_enter Tryz.func142,Tryz.ntmps142
  go_wp2_with fail
  refine hck.mono ?_
  rintro e w1 ⟨rfl,hb1⟩
  go_wp2_with fail
  go_returns
  exact ⟨⟨none,0,rfl,StrT.nil _ _ _ (by omega)⟩,hb1⟩
 obtain ⟨hl0,hl30,hg,-⟩:=form_right h0
 have hP:refsP l=Lib.compact ((nmsTo l l.length).mergeSort fun x y=>decide (x≤y)):=by unfold refsP;rw [if_pos h0]
 rw [h0,errV_zero] at hck ⊢
 obtain ⟨-,-,h1 | ⟨b,o,rfl,hN⟩⟩:=hN
 ·rw [h1] at hl0;simp at hl0
 have HG:Hid (∀ j,j<l.length→ndErr (l.getD j noN) j=0):=hg
 have HN:Hid (NdsAt w b o l):=hN
 have HP:Hid (refsP l=Lib.compact ((nmsTo l l.length).mergeSort fun x y=>decide (x≤y))):=hP
 obtain ⟨n,hn⟩:∃ n,l.length=n:=⟨_,rfl⟩
 have HL:Hid (l.length=n):=hn
 rw [hn] at hck ⊢
 have hni:(n:Int)≤30:=by omega
 clear h0 hP hg hN
 go_enter Tryz.func142,Tryz.ntmps142
 go_wp2_with fail
 refine hck.mono ?_
 rintro e w1 ⟨rfl,hb1⟩
 have HB1:Hid (Below w.heap.size w w1):=hb1
 clear hb1 hck
 go_wp2_with fail
 go_loopg [5,15] n (fun g s5 s15 wr => ∃ (k:Nat) (v:Value),k≤n∧g=n-k∧s15=.int .i64 k∧v=s5∧wr.ownsRow w.heap.size 9 1 v (nmsTo l k).length ((nmsTo l k).map encStr)∧Below w.heap.size w wr)
 case atStart=>exact ⟨0,_,Nat.zero_le _,rfl,rfl,rfl,World.ownsRow_nil _ _ _ _,HB1.out⟩
 case round =>
  obtain ⟨k,v,hk,rfl,rfl,rfl,hO,hBw⟩:=hrel
  have HO:Hid (wr.ownsRow w.heap.size 9 1 v (nmsTo l k).length ((nmsTo l k).map encStr)):=hO
  have HW:Hid (Below w.heap.size w wr):=hBw
  have hln:=nms_len l k
  clear hO hBw
  by_cases hlt:k<n
  ·have hki:(k:Int)<(n:Int):=by omega
   obtain ⟨x0,x1,x2,x3,x4⟩:=(HN.out.later HW.out).nd (k:=k) (by omega)
   have hbl:b<w.heap.size:=HN.out.1
   have hsz:=HW.out.size
   have hgk:=HG.out k (by omega)
   obtain ⟨x,hx⟩:∃ x,l.getD k noN=x:=⟨_,rfl⟩
   have HX:Hid (l.getD k noN=x):=hx
   rw [hx] at x0 x1 x2 x3 x4 hgk
   clear hx
   obtain ⟨m,hm⟩:∃ m,(nmsTo l k).length=m:=⟨_,rfl⟩
   by_cases h2:x.op=2
   ·have HT:Hid (nmsTo l (k+1)=nmsTo l k ++ [x.name.data.toList]):=nms_hit (by omega) HX.out h2
    have hnm:nameErr x.name=0:=by
     unfold ndErr at hgk
     rw [if_neg (by omega),if_neg (by omega),if_pos h2] at hgk
     split at hgk
     ·cases hgk
     ·rename_i h;simpa using h
    have hns:x.name.size≤8:=by
     unfold nameErr at hnm
     split at hnm
     ·cases hnm
     ·omega
    have hcl:=fun w=>sclone_any x.name w (by omega)
    rw [h2] at x0
    rw [hm] at HO
    clear hgk hnm
    go_wp2_with fail
    refine (hcl _).mono ?_
    rintro e w2 ⟨rfl,hb2⟩
    have HB2:Hid (Below w.heap.size w w2):=onB HW.out (onB (by go_grown) hb2)
    have hO2:=own_later HO.out (onB (by go_grown) hb2)
    have hsz2:=HB2.out.size
    clear hb2 hcl
    go_wp2_with (at_builtin;refine wpList_append_own _ rfl _ _ 113 rfl w.heap.size 9 i0 (.string ⟨#[]⟩) 1 16 Tryz.underlying113 hi0 hz0 hz1 hz2 rfl (by decide) _ _ _ rfl (hO2.alloc _) ⟨w2.heap.size,0,none⟩ 1 1 [.string x.name] rfl rfl one_cell (by intro u hu;simp at hu;subst hu;rfl) (by unfold maxLen;omega) (by omega) (by simp;omega) ?_)
    intro v' w3 hown' hgrow _
    have HB3:Hid (Below w.heap.size w w3):=grown_own HB2.out hO2 hgrow
    have HO3:Hid (w3.ownsRow w.heap.size 9 1 v' (nmsTo l (k+1)).length ((nmsTo l (k+1)).map encStr)):=by
     show World.ownsRow ..
     rw [HT.out,List.length_append,List.map_append,hm]
     exact hown'
    clear hown' hgrow hO2
    go_wp2_with fail
    go_roundg (n-(k+1))
    case measure=>omega
    case rel=>exact ⟨k+1,_,by omega,rfl,by go_num,rfl,HO3.out,HB3.out⟩
   ·have HT:Hid (nmsTo l (k+1)=nmsTo l k):=nms_miss (by omega) HX.out h2
    have e2:(x.op == 2)=false:=by simpa using h2
    clear hgk h2
    go_wp2_with fail
    go_roundg (n-(k+1))
    case measure=>omega
    case rel=>exact ⟨k+1,_,by omega,rfl,by go_num,rfl,by rw [HT.out];exact own_later HO.out (by go_grown),onB HW.out (by go_grown)⟩
  ·have hke:k=n:=by omega
   subst hke
   obtain ⟨zs,hzs⟩:∃ zs,nmsTo l k=zs:=⟨_,rfl⟩
   have HZ:Hid (refsP l=Lib.compact (zs.mergeSort fun x y=>decide (x≤y))):=by show _=_;rw [HP.out,HL.out,hzs]
   rw [hzs] at HO hln
   clear hzs
   by_cases hz:zs=[]
   ·subst hz
    have hv:v=.slice none 0 0∨∃ g c,v=.slice (some ⟨g,0,none⟩) 0 c∧c≤maxLen:=by
     rcases HO.out.2 with ⟨h,_⟩ | ⟨g,c,cur,h,_,_,_,hm,_⟩
     ·exact Or.inl h
     ·exact Or.inr ⟨g,c,h,hm⟩
    have HZ2:Hid (refsP l=[]):=by show _=_;rw [HZ.out,List.mergeSort_nil];rfl
    rcases hv with rfl | ⟨g,c,rfl,hcm⟩
    ·have hso:=Any.slices_Sort_string_none Tryz.lays190 none 0 wr
     have hco:=Any.slices_Compact_string_empty Tryz.lays194 none 0 wr
     clear HO
     go_wp2_with fail
     refine Calls.mono hso ?_
     rintro e w2 ⟨rfl,rfl⟩
     go_wp2_with fail
     refine Calls.mono hco ?_
     rintro e w3 ⟨rfl,rfl⟩
     go_wp2_with fail
     go_returns
     exact ⟨⟨none,0,by rw [HZ2.out];rfl,by rw [HZ2.out];exact StrT.nil _ _ _ (by omega)⟩,HW.out⟩
    ·have hso:=Any.slices_Sort_string_none Tryz.lays190 (some ⟨g,0,none⟩) c wr
     have hco:=Any.slices_Compact_string_empty Tryz.lays194 (some ⟨g,0,none⟩) c wr
     clear HO
     go_wp2_with fail
     refine Calls.mono hso ?_
     rintro e w2 ⟨rfl,rfl⟩
     go_wp2_with fail
     refine Calls.mono hco ?_
     rintro e w3 ⟨rfl,rfl⟩
     go_wp2_with fail
     go_returns
     exact ⟨⟨some ⟨g,0,none⟩,c,by rw [HZ2.out];rfl,by rw [HZ2.out];exact StrT.nil _ _ _ (by unfold maxLen at hcm;omega)⟩,HW.out⟩
   ·have hpos:0<zs.length:=List.length_pos_iff.2 hz
    obtain ⟨g,c,rfl,hgb,hgl,hnc,hcm,-,hH⟩:=Lib.holds_of_ownsRow HO.out (by intro e;have:=HO.out.2;rcases this with ⟨_,h⟩ | ⟨g,c,cur,h,_⟩;omega;rw [e] at h;cases h)
    have HTy:Hid (∃ cs fr,wr.heap[g]?=some (.cells cs 9 fr)):=by
     rcases HO.out.2 with ⟨h,-⟩ | ⟨g',c',cur,h,-,hg',-⟩
     ·cases h
     ·cases h;exact ⟨_,_,hg'⟩
    have hso:=Any.slices_Sort_string Tryz.lays190 g 0 c zs wr hH hgl (by omega)
    clear HO
    go_wp2_with fail
    refine Calls.mono hso ?_
    rintro e w2 ⟨rfl,q,os,hw2⟩
    obtain ⟨ys,hys⟩:∃ ys,(zs.mergeSort fun x y=>decide (x≤y))=ys:=⟨_,rfl⟩
    have hyl:ys.length=zs.length:=by rw [←hys];exact List.length_mergeSort zs
    rw [hys] at HZ hw2
    have HB2:Hid (Below w.heap.size w w2):=by rw [hw2];exact sorted_below HW.out hgb
    have hg2:g<w2.heap.size:=by rw [hw2];simp;omega
    have hH2:Holds encStr w2 g 0 ys.toArray:=by
     rw [hw2]
     exact Sort.holds_grow encStr _ _ _ _ _ (by simpa using hgl) (holds_putRow encStr (Sort.ahead wr q) g 0 zs.toArray _ hH (by simp [hyl]))
    have hco:=Any.slices_Compact_string Tryz.lays194 g 0 c ys w2 hH2 (by omega) (by omega)
    rw [hyl] at hco
    have HT2:Hid (∃ cs fr,w2.heap[g]?=some (.cells cs 9 fr)):=by
     obtain ⟨cs,fr,hty⟩:=HTy.out
     rw [hw2]
     exact grown_ty (put_ty (n:=q) hty)
    have HPk:Hid (∀ q2,StrsV (putRow encStr (Sort.ahead w2 q2) g 0 (Lib.compact ys ++ List.replicate (ys.length-(Lib.compact ys).length) []).toArray) (some ⟨g,0,none⟩) c (Lib.compact ys)):=fun q2=>packed_strs hH2 (by omega) hcm hg2
    rw [hyl] at HPk
    clear hw2 hys hso hH hH2
    go_wp2_with fail
    refine Calls.mono hco ?_
    rintro e w3 ⟨rfl,q2,hw3⟩
    have HB3:Hid (Below w.heap.size w w3):=by rw [hw3];exact packed_below HB2.out hgb
    have HS3:Hid (StrT w3 (some ⟨g,0,none⟩) c (Lib.compact ys)):=by
     rw [hw3]
     obtain ⟨cs,fr,hty⟩:=HT2.out
     obtain ⟨cs',fr',hty'⟩:=put_ty (n:=q2) hty
     exact ⟨HPk.out q2,Or.inr ⟨g,0,_,_,rfl,hty'⟩⟩
    clear hw3 hco HPk
    go_wp2_with fail
    go_returns
    exact ⟨⟨some ⟨g,0,none⟩,c,by rw [HZ.out];rfl,by rw [HZ.out];exact HS3.out⟩,HB3.out⟩
end Go.Proofs.YtigkeokacagabafGreatDoor
namespace Go.Proofs.YtigkeokacagabafGreatDoor
open Go.ChangeShapes Go.WideShapes Go.ChangeAt Go.RowKit
set_option maxRecDepth 20000
set_option maxHeartbeats 4000000 in
theorem rat_blk (A0:Option Addr) (cap n:Nat) (D:Nat→Dm) (A:Nat→Option Addr) (C:Nat→Nat) (X:Nat) (w:World) (hR:(allErr D n).2.2=0) (hX:X<prodN D n) (hM:DimsV w A0 cap n D A C):Calls Tryz.prog 24 #[.agg #[.slice A0 n cap],.int .i64 X] w fun e w'=>(∃ g,e=.returned (.slice (some ⟨g,0,none⟩) n n)∧w.heap.size<g∧IntB w' g (placeL D n X))∧Below w.heap.size w w':=by
 obtain ⟨hn1,hn4,hp3,hd⟩:=allErr_some hR
 have HD:Hid (∀ i,i<n→1≤(D i).n∧(D i).n≤12):=hd
 have hn':(n:Int)≤4:=by omega
 have hn1':(1:Int)≤(n:Int):=by omega
 have hX3:X≤3000:=by omega
 have hmk:=run_make_row' (P:=Tryz.prog) 44 3 (.int .i64 0) 8 Tryz.underlying44 Tryz.infoIntP rfl .i64 .i64 n (by omega) (by omega)
 obtain ⟨hcap,h0 | ⟨b,o,rfl,hMs⟩⟩:=hM
 ·omega
 obtain ⟨w1,hw1⟩:∃ w1,w1=ownOut w (some ⟨b,o,none⟩) n cap 42:=⟨_,rfl⟩
 have hB1:Below w.heap.size w w1:=by rw [hw1];exact ownOut_below ..
 have h2:w1.cell? ⟨w.heap.size,0,none⟩=some (.slice (some ⟨b,o,none⟩) n cap):=by rw [hw1];exact ownOut_at ..
 have hz1:w1.heap.size=w.heap.size+1:=by rw [hw1];exact ownOut_size ..
 have HMs:Hid (DimsAt w1 b o n D A C):=hMs.later hB1
 have HB1:Hid (Below w.heap.size w w1):=hB1
 have H2:Hid (w1.cell? ⟨w.heap.size,0,none⟩=some (.slice (some ⟨b,o,none⟩) n cap)):=h2
 have HZ1:Hid (w1.heap.size=w.heap.size+1):=hz1
 have HW1:Hid (w1=ownOut w (some ⟨b,o,none⟩) n cap 42):=hw1
 have HI0:Hid (IntB (w1.alloc (.cells (madeCells #[.int .i64 0] n) 3)) w1.heap.size (digL D n X 0)):=by show IntB _ _ _;rw [digL_zero];exact IntB.made w1 n
 have HBm:Hid (Below w1.heap.size w1 (w1.alloc (.cells (madeCells #[.int .i64 0] n) 3))):=by show Below _ _ _;go_grown
 rw [hw1] at HI0 HBm
 unfold ownOut at HI0 HBm
 clear hd hMs hB1 h2 hz1 hw1 hX hp3 hR
 go_enter Tryz.func24,Tryz.ntmps24
 go_wp2_with fail
 clear hmk
 go_loopg [1,6,7] n (fun g s1 s6 s7 wr => ∃ (r:Nat),r≤n∧g=n-r∧s6=.int .i64 ((n:Int)-1-r)∧s1=.int .i64 (restAt D n X r)∧IntB wr w1.heap.size (digL D n X r)∧Below w1.heap.size w1 wr)
 case atStart=>exact ⟨0,Nat.zero_le _,rfl,by simp,rfl,by rw [HW1.out];exact HI0.out,by rw [HW1.out];exact HBm.out⟩
 case round =>
  obtain ⟨r,hr,rfl,rfl,rfl,hI,hBw⟩:=hrel
  have HI:Hid (IntB wr w1.heap.size (digL D n X r)):=hI
  have HBw:Hid (Below w1.heap.size w1 wr):=hBw
  by_cases hlt:r<n
  ·obtain ⟨k,hk⟩:∃ k:Nat,k=n-1-r:=⟨_,rfl⟩
   have hki:(n:Int)-1-(r:Int)=(k:Int):=by omega
   rw [hki]
   have HK:Hid (k=n-1-r):=hk
   have hkn:k<n:=by omega
   obtain ⟨-,-,h3,-⟩:=(HMs.out.later hBw).2 k hkn
   have c2:wr.cell? ⟨w.heap.size,0,none⟩=some (.slice (some ⟨b,o,none⟩) n cap):=(hBw.cell (p:=⟨w.heap.size,0,none⟩) (by show w.heap.size<_;rw [HZ1.out];omega)).trans H2.out
   have hkn':(k:Int)<(n:Int):=by omega
   have c4:=hI.cell (j:=k) (by rw [digL_len];exact hkn)
   have c5:=hI.frozen k
   rw [HZ1.out] at c4 c5
   obtain ⟨hd1,hd2⟩:=HD.out k hkn
   have hre:=restAt_le D n X r
   have HR1:Hid (restAt D n X (r+1)=restAt D n X r / (D k).n):=by show _=_;rw [restAt,hk]
   have HR2:Hid (digitAt D n X k=restAt D n X r % (D k).n):=by show _=_;rw [digitAt,show n-1-k=r by omega]
   have HS:Hid ((digL D n X r).set k (digitAt D n X k:Int)=digL D n X (r+1)):=by show _=_;rw [hk];exact digL_set D n X r hlt
   generalize (digL D n X r).getD k 0=old at c4
   generalize restAt D n X r=R at HR1 HR2 hre
   generalize hm:(D k).n=m at h3 hd1 hd2 HR1 HR2
   have hm1:(1:Int)≤(m:Int):=by omega
   have hm2:(m:Int)≤12:=by omega
   have hRR:(R:Int)≤3000:=by omega
   have hR0:(0:Int)≤(R:Int):=by omega
   have hm0:((m:Int) == 0)=false:=by simp;omega
   clear hI hBw hk hki hm
   go_wp2_with fail
   go_roundg (n-(r+1))
   case measure=>omega
   case rel =>
    have hdm:=Nat.div_le_self R m
    have hw:wrap64 ((R:Int) / (m:Int))=((R / m:Nat):Int):=by
     rw [←Int.natCast_ediv]
     exact wrap_small (Nat.le_trans hdm (by omega))
    refine ⟨r+1,by omega,rfl,?_,?_,?_,HBw.out.setCell (by show w1.heap.size≤w.heap.size+1;rw [HZ1.out];exact Nat.le_refl _) _⟩
    ·have:=HK.out
     congr 1
     omega
    ·rw [hw,HR1.out]
    ·have hs:=HI.out.set k (digitAt D n X k:Int)
     rw [HS.out,HR2.out,Int.natCast_emod] at hs
     rw [HZ1.out] at hs ⊢
     exact hs
  ·have hre:r=n:=by omega
   subst hre
   have hk0:(r:Int)-1-(r:Int) = -1:=by omega
   rw [hk0]
   clear hI hBw
   go_wp2_with fail
   go_ret
   have hp:=HI.out
   rw [digL_all] at hp
   rw [HZ1.out] at hp
   exact ⟨⟨_,rfl,Nat.lt_succ_self _,hp⟩,onB HB1.out HBw.out⟩
theorem samepl_end {a b:List Int} (hl:a.length=b.length) {k:Nat} (hk:a.length≤k) (h:∀ j,j<k→a.getD j 0=b.getD j 0):a=b:=by
 apply List.ext_getElem hl
 intro i h1 h2
 have:=h i (by omega)
 simpa [List.getD,h1,h2] using this
set_option maxHeartbeats 1000000 in
theorem samepl_any (A B:Option Addr) (ca cb:Nat) (a b:List Int) (w:World) (hn:a.length≤4) (hA:PlAt w A ca a) (hB:PlAt w B cb b):Calls Tryz.prog 52 #[.slice A a.length ca,.slice B b.length cb] w fun e w'=>e=.returned (.bool (decide (a=b)))∧Below w.heap.size w w':=by
 by_cases hl:a.length=b.length
 ·obtain ⟨hc,h0 | ⟨g,o,rfl,hbw,hcell⟩⟩:=hA
  ·subst h0
   have h1:b=[]:=List.eq_nil_of_length_eq_zero hl.symm
   subst h1
   simp only [List.length_nil]
   go_enter Tryz.func52,Tryz.ntmps52
   go_wp2_with fail
   refine wp_loop_rounds 1 ?_
   rw [rounds_succ]
   go_wp2_with fail
   go_ret
   exact ⟨rfl,Below.refl _ _⟩
  ·obtain ⟨hc',h0 | ⟨g',o',rfl,hbw',hcell'⟩⟩:=hB
   ·subst h0
    have h1:a=[]:=List.eq_nil_of_length_eq_zero hl
    subst h1
    simp only [List.length_nil]
    go_enter Tryz.func52,Tryz.ntmps52
    go_wp2_with fail
    refine wp_loop_rounds 1 ?_
    rw [rounds_succ]
    go_wp2_with fail
    go_ret
    exact ⟨rfl,Below.refl _ _⟩
   ·have HC:Hid (∀ j,j<a.length→w.cell? ⟨g,o+j,none⟩=some (.int .i64 (a.getD j 0))):=hcell
    have HC':Hid (∀ j,j<a.length→w.cell? ⟨g',o'+j,none⟩=some (.int .i64 (b.getD j 0))):=fun j hj=>hcell' j (by omega)
    have HE:Hid (∀ k,a.length≤k→(∀ j,j<k→a.getD j 0=b.getD j 0)→decide (a=b)=true):=fun k hk h=>decide_eq_true (samepl_end hl hk h)
    have HN:Hid (∀ k,a.getD k 0≠b.getD k 0→decide (a=b)=false):=fun k h=>decide_eq_false fun e=>h (by rw [e])
    rw [←hl]
    rw [←hl] at hc'
    generalize hnn:a.length=n at hn hc hc' HC HC' HE
    generalize decide (a=b)=res at HE HN
    clear hcell hcell' hnn hl
    have hn':(n:Int)≤4:=by omega
    go_enter Tryz.func52,Tryz.ntmps52
    go_wp2_with fail
    go_loopg [5] n (fun gg s5 wr => ∃ (k:Nat),k≤n∧gg=n-k∧s5=.int .i64 k∧(∀ j,j<k→a.getD j 0=b.getD j 0)∧Below w.heap.size w wr)
    case atStart=>exact ⟨0,Nat.zero_le _,rfl,rfl,fun j hj=>absurd hj (Nat.not_lt_zero _),Below.refl _ _⟩
    case round =>
     obtain ⟨k,hk,rfl,rfl,hsame,hBw⟩:=hrel
     have HBw:Hid (Below w.heap.size w wr):=hBw
     have HS:Hid (∀ j,j<k→a.getD j 0=b.getD j 0):=hsame
     clear hsame
     by_cases hlt:k<n
     ·have hki:(k:Int)<(n:Int):=by omega
      have x1:=(hBw.cell (p:=⟨g,o+k,none⟩) hbw).trans (HC.out k hlt)
      have x2:=(hBw.cell (p:=⟨g',o'+k,none⟩) hbw').trans (HC'.out k hlt)
      by_cases hxy:a.getD k 0=b.getD k 0
      ·have HXY:Hid (a.getD k 0=b.getD k 0):=hxy
       rw [←hxy] at x2
       generalize a.getD k 0=x at x1 x2
       clear hBw hxy
       go_wp2_with fail
       go_quiet (fail)
       go_wp2_with fail
       go_roundg (n-(k+1))
       case measure=>omega
       case rel =>
        refine ⟨k+1,by omega,rfl,by go_num,fun j hj=>?_,below_drewN HBw.out _⟩
        rcases Nat.lt_succ_iff_lt_or_eq.1 hj with h1 | rfl
        ·exact HS.out j h1
        ·exact HXY.out
      ·have HR:Hid (res=false):=HN.out k hxy
       generalize a.getD k 0=x at x1 hxy
       generalize b.getD k 0=y at x2 hxy
       clear hBw
       go_wp2_with fail
       go_quiet (fail)
       go_wp2_with fail
       go_ret
       rw [HR.out]
       exact ⟨rfl,below_drewN HBw.out _⟩
     ·have hke:k=n:=by omega
      subst hke
      have HR:Hid (res=true):=HE.out k (Nat.le_refl _) HS.out
      go_wp2_with fail
      go_ret
      rw [HR.out]
      exact ⟨rfl,hBw⟩
 ·have hr:decide (a=b)=false:=decide_eq_false fun e=>hl (by rw [e])
  rw [hr]
  have hl' : ¬ ((a.length:Int)=(b.length:Int)):=by omega
  clear hA hB hr
  generalize a.length=n at hl hl' hn
  generalize b.length=m at hl hl'
  go_enter Tryz.func52,Tryz.ntmps52
  go_wp2_with fail
  go_ret
  exact ⟨rfl,Below.refl _ _⟩
end Go.Proofs.YtigkeokacagabafGreatDoor
