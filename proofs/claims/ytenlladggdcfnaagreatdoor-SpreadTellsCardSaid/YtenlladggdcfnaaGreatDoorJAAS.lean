/-
  A list of ints cloned: what slices.Clone answers at []int, wherever the list lies.
-/
import Derived.Sort.Walk0
import Derived.Maps.AppendAt
import Derived.Test.YtenlladggdcfnaaGreatDoorJAAK
import Derived.Test.YtenlladggdcfnaaGreatDoorJAAR
namespace Go.Proofs.YtenlladggdcfnaaGreatDoor
open Go.ChangeShapes Go.WideShapes Go.ChangeAt Go.RowKit
set_option maxRecDepth 20000
set_option maxHeartbeats 2000000 in
theorem iclone_pl (A:Option Addr) (c:Nat) (L:List Int) (w:World) (hL:L.length≤1048576) (hP:PlAt w A c L):Calls Tryz.prog 122 #[.slice A L.length c] w fun e w'=>(∃ v,e=.returned v∧w'.ownsRow w.heap.size 3 1 v L.length (mapI L))∧Below w.heap.size w w':=by
 have hq:∀ (w:World) (a:Option Addr) (n c n' c':Nat),(binOp .eql 22 (.slice a n c) (.slice none n' c')).run Tryz.prog w=.ok (.bool a.isNone) w:=fun w a n c n' c'=>Lib.run_eql_slice_nil w _ _ a n c n' c' Tryz.underlying22
 cases A with
 | none =>
  obtain ⟨-,h0 | ⟨b,o,h0,-⟩⟩:=hP
  ·subst h0
   simp only [List.length_nil]
   go_enter Tryz.func122,Tryz.ntmps122
   go_wp2_with fail
   go_ret
   exact ⟨⟨_,rfl,World.ownsRow_nil _ _ _ _⟩,Below.refl _ _⟩
  ·cases h0
 | some a =>
  obtain ⟨i0,hi0,hz0,hz1,hz2⟩:=info_parts Tryz.infoInt
  have HC:Hid (∀ j u,(mapI L)[j]?=some u→w.cell? (a.add j)=some u):=by
   intro j u hj
   obtain ⟨-,h0 | ⟨b,o,h0,-,hcell⟩⟩:=hP
   ·subst h0;simp [mapI] at hj
   ·cases h0
    have hlt:j<L.length:=by have:=(List.getElem?_eq_some_iff.1 hj).1;simpa [mapI] using this
    rw [plain_add,hcell j hlt]
    simp only [mapI,List.getElem?_map,List.getElem?_eq_getElem hlt,Option.map_some,Option.some.injEq] at hj
    rw [←hj,List.getD_eq_getElem?_getD,List.getElem?_eq_getElem hlt]
    rfl
  have hl:(mapI L).length=L.length*1:=by simp [mapI]
  have h1:∀ u∈mapI L,u.oneCell'=true:=by intro u hu;simp [mapI] at hu;obtain ⟨x,-,rfl⟩:=hu;rfl
  clear hP
  go_enter Tryz.func122,Tryz.ntmps122
  go_wp2_with (at_builtin;refine wpList_append_own _ rfl _ _ 22 rfl w.heap.size 3 i0 (.int .i64 0) 1 8 Tryz.underlying22 hi0 hz0 hz1 hz2 rfl (by decide) _ _ _ rfl (World.ownsRow_made w #[] 0 (Nat.le_refl _) (Nat.zero_le _) (by simp)) a L.length c (mapI L) rfl ?qc1 ?qc2 ?qc3 ?qc4 ?qc5 ?qc6 ?_)
  case qc1=>exact hl
  case qc2=>exact fun j u hj=>Lib.cell?_alloc_some _ (HC.out j u hj)
  case qc3=>exact h1
  case qc4=>simp only [maxLen];omega
  case qc5=>omega
  case qc6=>simp
  intro v' w1 hown hgrow hnil
  have HO:Hid (w1.ownsRow w.heap.size 3 1 v' L.length (mapI L)):=hown
  have HB:Hid (Below w.heap.size w w1):=((Below.refl _ w).alloc (Nat.le_refl _) _).grown hgrow (by simp) (by intro k hk;simp [Value.ownBlock] at hk;omega)
  clear hown hgrow hnil
  go_wp2_with fail
  go_ret
  exact ⟨⟨_,rfl,HO.out⟩,HB.out⟩
def IntT (w:World) (A:Option Addr) (c:Nat) (L:List Int):Prop:=L.length≤c∧c≤9223372036854775807∧(L=[]∨∃ b cs fr,A=some ⟨b,0,none⟩∧w.heap[b]?=some (.cells cs 3 fr)∧∀ j,j<L.length→w.cell? ⟨b,j,none⟩=some (.int .i64 (L.getD j 0)))
theorem IntT.at {w:World} {A:Option Addr} {c:Nat} {L:List Int} (h:IntT w A c L):IntsAt w A c L:=by
 obtain ⟨h1,-,h2 | ⟨b,cs,fr,h2,h3,h4⟩⟩:=h
 ·exact ⟨h1,Or.inl h2⟩
 ·exact ⟨h1,Or.inr ⟨b,h2,(Array.getElem?_eq_some_iff.1 h3).1,h4⟩⟩
theorem IntT.nil (w:World) (A:Option Addr) (c:Nat) (h:c≤9223372036854775807):IntT w A c []:=⟨Nat.zero_le _,h,Or.inl rfl⟩
theorem IntT.keep {w w':World} {A:Option Addr} {c:Nat} {L:List Int} (h:IntT w A c L) (hB:∀ (b:Nat) (cs:Array Value) (fr:Nat×Nat),w.heap[b]?=some (Obj.cells cs 3 fr)→w'.heap[b]?=w.heap[b]?):IntT w' A c L:=by
 obtain ⟨h1,h0,h2 | ⟨b,cs,fr,h2,h3,h4⟩⟩:=h
 ·exact ⟨h1,h0,Or.inl h2⟩
 ·have hb:=hB b cs fr h3
  exact ⟨h1,h0,Or.inr ⟨b,cs,fr,h2,hb.trans h3,fun j hj=>(World.cell?_of_block (a:=⟨b,j,none⟩) hb).trans (h4 j hj)⟩⟩
theorem IntT.later {w w':World} {A:Option Addr} {c:Nat} {L:List Int} (h:IntT w A c L) (hB:Below w.heap.size w w'):IntT w' A c L :=
 h.keep fun b _ _ hb=>hB.block b (Array.getElem?_eq_some_iff.1 hb).1
theorem intT_own {w:World} {base:Nat} {v:Value} {L:List Int} (h:w.ownsRow base 3 1 v L.length (mapI L)):∃ A c,v=.slice A L.length c∧IntT w A c L:=by
 rcases h.2 with ⟨rfl,h0⟩ | ⟨g,cap,cur,rfl,hb,hg,hc,hm,_,_⟩
 ·have:L=[]:=List.eq_nil_of_length_eq_zero h0
  subst this
  exact ⟨none,0,rfl,IntT.nil _ _ _ (by omega)⟩
 ·refine ⟨_,cap,rfl,hc,by unfold maxLen at hm;omega,Or.inr ⟨g,cur,_,rfl,hg,fun j hj=>?_⟩⟩
  have hx:=h.cells (g:=g) rfl j (.int .i64 (L.getD j 0)) (by simp [mapI,List.getD,List.getElem?_eq_getElem hj])
  have hadd:(⟨g,0,none⟩:Addr).add j=⟨g,j,none⟩:=by unfold Addr.add;split <;> simp_all
  rw [hadd] at hx
  exact hx
theorem row_ne_int:(3:Nat)≠22:=by decide
theorem IntT.row {w w':World} {base:Nat} {v:Value} {n:Nat} {zs:List Value} {A:Option Addr} {c:Nat} {L:List Int} (h:IntT w A c L) (hown:w.ownsRow base 22 1 v n zs) (hG:w.grownBy w' v.ownBlock):IntT w' A c L:=by
 refine h.keep fun b cs fr hb=>hG.block b (Array.getElem?_eq_some_iff.1 hb).1 fun e=>?_
 rcases hown.2 with ⟨rfl,-⟩ | ⟨g,cap,cur,rfl,-,hg,-⟩
 ·cases e
 ·simp only [Value.ownBlock,Option.some.injEq] at e
  rw [e,hg] at hb
  simp only [Option.some.injEq,Obj.cells.injEq] at hb
  exact row_ne_int hb.2.1.symm
structure RL where
 p:List Int
 A:Option Addr
 c:Nat
def noR:RL:=⟨[],none,0⟩
def lR (xs:List RL):List (List Int):=xs.map RL.p
theorem lR_len (xs:List RL):(lR xs).length=xs.length:=by simp [lR]
theorem lR_append (a b:List RL):lR (a ++ b)=lR a ++ lR b:=by simp [lR]
def cellsR (xs:List RL):List Value:=xs.map fun x=>.slice x.A x.p.length x.c
theorem cellsR_append (a b:List RL):cellsR (a ++ b)=cellsR a ++ cellsR b:=by simp [cellsR]
theorem rl_mem {xs:List RL} {k:Nat} (h:k<xs.length):xs.getD k noR∈xs:=by
 rw [List.getD_eq_getElem?_getD,List.getElem?_eq_getElem h]
 exact List.getElem_mem h
theorem lR_at (xs:List RL) (k:Nat):(lR xs).getD k []=(xs.getD k noR).p:=by
 rw [List.getD_eq_getElem?_getD,List.getD_eq_getElem?_getD,lR,List.getElem?_map]
 cases xs[k]? <;> rfl
theorem cellsR_at {xs:List RL} {k:Nat} (h:k<xs.length):(cellsR xs)[k]?=some (.slice (xs.getD k noR).A (xs.getD k noR).p.length (xs.getD k noR).c):=by
 simp [cellsR,List.getD,h]
def RowsV (w:World) (A:Option Addr) (cap:Nat) (xs:List RL):Prop:=xs.length≤cap∧(xs=[]∨∃ b,A=some ⟨b,0,none⟩∧b<w.heap.size∧∀ k,k<xs.length→w.cell? ⟨b,k,none⟩=some (.slice (xs.getD k noR).A (xs.getD k noR).p.length (xs.getD k noR).c))∧∀ x∈xs,IntT w x.A x.c x.p
theorem RowsV.later {w w':World} {A:Option Addr} {cap:Nat} {xs:List RL} (h:RowsV w A cap xs) (hB:Below w.heap.size w w'):RowsV w' A cap xs:=by
 obtain ⟨h1,h2,h3⟩:=h
 refine ⟨h1,?_,fun x hx=>(h3 x hx).later hB⟩
 rcases h2 with h2 | ⟨b,h2,h4,h5⟩
 ·exact Or.inl h2
 ·exact Or.inr ⟨b,h2,Nat.lt_of_lt_of_le h4 hB.size,fun k hk=>(hB.cell (p:=⟨b,k,none⟩) h4).trans (h5 k hk)⟩
theorem RowsV.nil (w:World) (A:Option Addr) (cap:Nat):RowsV w A cap []:=⟨Nat.zero_le _,Or.inl rfl,fun x hx=>by cases hx⟩
theorem rows_own {w:World} {base:Nat} {v:Value} {xs:List RL} (h:w.ownsRow base 22 1 v xs.length (cellsR xs)) (hp:∀ x∈xs,IntT w x.A x.c x.p):∃ A c,v=.slice A xs.length c∧RowsV w A c xs:=by
 rcases h.2 with ⟨rfl,h0⟩ | ⟨g,cap,cur,rfl,hb,hg,hc,_,_,_⟩
 ·have:xs=[]:=List.eq_nil_of_length_eq_zero h0
  subst this
  exact ⟨none,0,rfl,RowsV.nil _ _ _⟩
 ·refine ⟨_,cap,rfl,hc,Or.inr ⟨g,rfl,(Array.getElem?_eq_some_iff.1 hg).1,fun k hk=>?_⟩,hp⟩
  have y:=h.cells (g:=g) rfl k _ (cellsR_at hk)
  have hadd:(⟨g,0,none⟩:Addr).add k=⟨g,k,none⟩:=by unfold Addr.add;split <;> simp_all
  rw [hadd] at y
  exact y
theorem Tryz.infoRow:(Tryz.prog.info? 22).map (fun i=>(i.zero,i.size,i.bytes))=some (some (.slice none 0 0),1,24):=by kernel_rfl
theorem iclone_any (A:Option Addr) (c:Nat) (L:List Int) (w:World) (hL:L.length≤12) (hP:IntT w A c L):Calls Tryz.prog 122 #[.slice A L.length c] w fun e w'=>(∃ v,e=.returned v∧w'.ownsRow w.heap.size 3 1 v L.length (mapI L))∧Below w.heap.size w w' :=
 iclone_pl A c L w (by omega) (pl_ints hP.at)
def Short (xs:List EnL) (p:List Int):Prop:=(∀ k,k<xs.length→(xs.getD k noL).e.pl.length≤4)∧p.length≤4
set_option maxHeartbeats 2000000 in
theorem leafs_any (d:Dm) (A:Option Addr) (cap:Nat) (i:Int) (w:World) (hM:MemsV w A cap d.n d.mem):Calls Tryz.prog 74 #[dimV d A cap,.int .i64 i] w fun e w'=>(∃ A' c',e=.returned (.tuple #[.slice A' (lst (treeErr d [i]) (leafsOf d.mem d.n i)).length c',errV (treeErr d [i])])∧IntsAt w' A' c' (lst (treeErr d [i]) (leafsOf d.mem d.n i)))∧Below w.heap.size w w':=by
 have hB0:=ownQ_below w d A cap i 81 3
 have hck:=tcheck_any d A cap _ 1 [i] (ownQ w d A cap i 81 3) (hM.later hB0) (by simp) (ownQ_ints ..)
 have HB0:Hid (Below w.heap.size w (ownQ w d A cap i 81 3)):=hB0
 have HM:Hid (MemsV w A cap d.n d.mem):=hM
 unfold dimV at hck ⊢
 simp only [List.length_singleton] at hck
 clear hM hB0
 by_cases he:treeErr d [i]=0
 ·obtain ⟨hd,k,rfl,hk⟩:=treeErr_in he
  rw [he,errV_zero] at hck
  obtain ⟨-,-,hd2,-⟩:=dimErr_right hd
  have ht:Tr d.mem d.n:=Tr.of hd
  have HR:Hid (lst (treeErr d [(k:Int)]) (leafsOf d.mem d.n k)=selTo (leafIn d.mem d.n k) d.n):=lst_ok he _
  have HE:Hid (errV (treeErr d [(k:Int)])=.nilIface):=by show _=_;rw [he];rfl
  have HT:Hid (Tr d.mem d.n):=ht
  clear he hd ht
  go_enter Tryz.func74,Tryz.ntmps74
  go_wp2_with fail
  refine hck.mono ?_
  rintro e w1 ⟨rfl,hb1⟩
  have hB:Below w.heap.size w w1:=onB HB0.out hb1
  have hz:w.heap.size+1<w1.heap.size:=by have:=hb1.size;rw [ownQ_size] at this;omega
  have hz0:w.heap.size<w1.heap.size:=by omega
  have h2:w1.cell? ⟨w.heap.size,2,none⟩=some (.slice A d.n cap):=(hb1.cell (p:=⟨w.heap.size,2,none⟩) (by show w.heap.size<_;rw [ownQ_size];omega)).trans (ownQ_dim ..)
  have h3:w1.cell? ⟨w.heap.size+1,0,none⟩=some (.int .i64 k):=(hb1.cell (p:=⟨w.heap.size+1,0,none⟩) (by show w.heap.size+1<_;rw [ownQ_size];omega)).trans (ownQ_int ..)
  obtain ⟨hcap,h0 | ⟨b,o,rfl,hMs⟩⟩:=HM.out.later hB
  ·omega
  have hpl:=places_any 100 w.heap.size (w.heap.size+1) leafs1_in (some ⟨b,o,none⟩) d.n cap (leafIn d.mem d.n k) w1 hd2 (fun j w' hj hw'=>leafs1_any b o d.n cap j w.heap.size (w.heap.size+1) d.mem k w' hj hd2 HT.out (hMs.later hw') (Nat.lt_of_lt_of_le hz0 hw'.size) (Nat.lt_of_lt_of_le hz hw'.size) ((hw'.cell (p:=⟨w.heap.size,2,none⟩) hz0).trans h2) ((hw'.cell (p:=⟨w.heap.size+1,0,none⟩) hz).trans h3))
  have HB:Hid (Below w.heap.size w w1):=hB
  clear hb1 hck hMs h3 hB
  go_wp2_with fail
  refine hpl.mono ?_
  rintro e w2 ⟨⟨A',c',rfl,hI⟩,hb2⟩
  go_wp2_with fail
  go_ret2
  rw [HR.out,HE.out]
  exact ⟨⟨A',c',rfl,hI⟩,onB HB.out hb2⟩
 ·have HR:Hid (lst (treeErr d [i]) (leafsOf d.mem d.n i)=[]):=lst_bad he _
  have HE:Hid (errV (treeErr d [i])=.iface 46 (.int .i64 (treeErr d [i]))):=errV_some he
  rw [errV_some he] at hck
  clear he
  generalize treeErr d [i]=c at hck HR HE
  go_enter Tryz.func74,Tryz.ntmps74
  go_wp2_with fail
  refine hck.mono ?_
  rintro e w1 ⟨rfl,hb1⟩
  go_wp2_with fail
  go_ret2
  rw [HR.out,HE.out]
  exact ⟨⟨none,0,rfl,IntsAt.nil _ _ _⟩,onB HB0.out hb1⟩
end Go.Proofs.YtenlladggdcfnaaGreatDoor
namespace Go.Proofs.YtenlladggdcfnaaGreatDoor
section
variable {S:Type} (s:ByteArray) (tk:S→ByteArray→S)
def runR:Nat→Bool→Rd S→Rd S×Bool
 | 0,_,r=>(r,false)
 | f+1,false,r =>
  if nextB s r.at'=40 then runR f false (wordR s tk 1 ⟨r.at',r.opn+1,r.st⟩)
  else if digB (nextB s r.at') then runR f true (wordR s tk (digitsN s r.at') r)
  else if letB (nextB s r.at') then runR f true (wordR s tk (leadN letB (s.extract r.at' s.size)) r)
  else (r,false)
 | f+1,true,r =>
  if 0<r.opn∧nextB s r.at'=41 then runR f true (wordR s tk 1 ⟨r.at',r.opn-1,r.st⟩)
  else if r.at'<s.size then (if signI (nextB s r.at')<0 then (r,false) else runR f false (wordR s tk 1 r))
  else (r,decide (r.opn=0))
end
section
variable {S:Type} {s:ByteArray} {tk:S→ByteArray→S}
theorem dig_pos {a:Nat} (ha:a≤s.size) (h:digB (nextB s a)=true):1≤digitsN s a∧a+digitsN s a≤s.size:=by
 have hlt:a<s.size:=next_zero (fun e=>by rw [e] at h;revert h;decide) ha
 have h1:=(lead_word (n:=0) hlt h (Nat.zero_le _)).1
 refine ⟨?_,(dig_word (o:=0) ha h).1⟩
 unfold digitsN
 split <;> omega
theorem let_pos {a:Nat} (ha:a≤s.size) (h:letB (nextB s a)=true):1≤leadN letB (s.extract a s.size)∧a+leadN letB (s.extract a s.size)≤s.size:=by
 have hlt:a<s.size:=next_zero (fun e=>by rw [e] at h;revert h;decide) ha
 exact ⟨(lead_word (n:=0) hlt h (Nat.zero_le _)).1,(let_word (o:=0) ha h).1⟩
theorem run_fuel:∀ (f g:Nat) (ph:Bool) (r:Rd S),r.at'≤s.size→s.size-r.at'<f→s.size-r.at'<g→runR s tk f ph r=runR s tk g ph r
 | 0,_,_,_,_,h,_=>by omega
 | _+1,0,_,_,_,_,h=>by omega
 | f+1,g+1,false,r,hr,hf,hg=>by
  rw [runR,runR]
  by_cases h1:nextB s r.at'=40
  ·rw [if_pos h1,if_pos h1]
   have h:=(opn_word (o:=0) hr h1).1
   exact run_fuel f g false _ h (by show s.size-(r.at'+1)<f;omega) (by show s.size-(r.at'+1)<g;omega)
  rw [if_neg h1,if_neg h1]
  by_cases h2:digB (nextB s r.at')=true
  ·rw [if_pos h2,if_pos h2]
   have h:=dig_pos hr h2
   exact run_fuel f g true _ h.2 (by show s.size-(r.at'+digitsN s r.at')<f;omega) (by show s.size-(r.at'+digitsN s r.at')<g;omega)
  rw [if_neg h2,if_neg h2]
  by_cases h3:letB (nextB s r.at')=true
  ·rw [if_pos h3,if_pos h3]
   have h:=let_pos hr h3
   exact run_fuel f g true _ h.2 (by show s.size-(r.at'+leadN letB (s.extract r.at' s.size))<f;omega) (by show s.size-(r.at'+leadN letB (s.extract r.at' s.size))<g;omega)
  rw [if_neg h3,if_neg h3]
 | f+1,g+1,true,r,hr,hf,hg=>by
  rw [runR,runR]
  by_cases h1:0<r.opn∧nextB s r.at'=41
  ·rw [if_pos h1,if_pos h1]
   have h:=(cls_word (o:=0) hr h1.2).1
   exact run_fuel f g true _ h (by show s.size-(r.at'+1)<f;omega) (by show s.size-(r.at'+1)<g;omega)
  rw [if_neg h1,if_neg h1]
  by_cases h2:r.at'<s.size
  ·rw [if_pos h2,if_pos h2]
   by_cases h3:signI (nextB s r.at')<0
   ·rw [if_pos h3,if_pos h3]
   ·rw [if_neg h3,if_neg h3]
    exact run_fuel f g false _ h2 (by show s.size-(r.at'+1)<f;omega) (by show s.size-(r.at'+1)<g;omega)
  ·rw [if_neg h2,if_neg h2]
end
def toEnd {S:Type} (s:ByteArray) (tk:S→ByteArray→S) (ph:Bool) (r:Rd S):Rd S×Bool:=runR s tk (s.size+1) ph r
section
variable {S:Type} {s:ByteArray} {tk:S→ByteArray→S} {r:Rd S}
theorem end_open (hr:r.at'≤s.size) (h:nextB s r.at'=40):toEnd s tk false r=toEnd s tk false (wordR s tk 1 ⟨r.at',r.opn+1,r.st⟩):=by
 have h1:=(opn_word (o:=0) hr h).1
 unfold toEnd
 rw [runR,if_pos h]
 exact run_fuel _ _ _ _ h1 (by show s.size-(r.at'+1)<_;omega) (by show s.size-(r.at'+1)<_;omega)
theorem end_dig (hr:r.at'≤s.size) (h:digB (nextB s r.at')=true):toEnd s tk false r=toEnd s tk true (wordR s tk (digitsN s r.at') r):=by
 have h1:=dig_pos hr h
 have h40:nextB s r.at'≠40:=fun e=>by rw [e] at h;revert h;decide
 unfold toEnd
 rw [runR,if_neg h40,if_pos h]
 exact run_fuel _ _ _ _ h1.2 (by show s.size-(r.at'+digitsN s r.at')<_;omega) (by show s.size-(r.at'+digitsN s r.at')<_;omega)
theorem end_let (hr:r.at'≤s.size) (h:letB (nextB s r.at')=true):toEnd s tk false r=toEnd s tk true (wordR s tk (leadN letB (s.extract r.at' s.size)) r):=by
 have h1:=let_pos hr h
 have h40:nextB s r.at'≠40:=fun e=>by rw [e] at h;revert h;decide
 have hd : ¬ digB (nextB s r.at')=true:=fun e=>by unfold digB at e;unfold letB at h;simp at e h;omega
 unfold toEnd
 rw [runR,if_neg h40,if_neg hd,if_pos h]
 exact run_fuel _ _ _ _ h1.2 (by show s.size-(r.at'+leadN letB (s.extract r.at' s.size))<_;omega) (by show s.size-(r.at'+leadN letB (s.extract r.at' s.size))<_;omega)
theorem end_none (h:nextB s r.at'≠40) (h1:digB (nextB s r.at')=false) (h2:letB (nextB s r.at')=false):toEnd s tk false r=(r,false):=by
 unfold toEnd
 rw [runR,if_neg h,if_neg (by rw [h1];decide),if_neg (by rw [h2];decide)]
theorem end_close (hr:r.at'≤s.size) (h:0<r.opn∧nextB s r.at'=41):toEnd s tk true r=toEnd s tk true (wordR s tk 1 ⟨r.at',r.opn-1,r.st⟩):=by
 have h1:=(cls_word (o:=0) hr h.2).1
 unfold toEnd
 rw [runR,if_pos h]
 exact run_fuel _ _ _ _ h1 (by show s.size-(r.at'+1)<_;omega) (by show s.size-(r.at'+1)<_;omega)
theorem end_sign (h : ¬ (0<r.opn∧nextB s r.at'=41)) (hlt:r.at'<s.size) (hs : ¬ signI (nextB s r.at')<0):toEnd s tk true r=toEnd s tk false (wordR s tk 1 r):=by
 have e:runR s tk (s.size+1) true r=runR s tk s.size false (wordR s tk 1 r):=by rw [runR,if_neg h,if_pos hlt,if_neg hs]
 unfold toEnd
 rw [e]
 exact run_fuel _ _ _ _ hlt (by show s.size-(r.at'+1)<_;omega) (by show s.size-(r.at'+1)<_;omega)
theorem end_bad (h : ¬ (0<r.opn∧nextB s r.at'=41)) (hlt:r.at'<s.size) (hs:signI (nextB s r.at')<0):toEnd s tk true r=(r,false):=by
 unfold toEnd
 rw [runR,if_neg h,if_pos hlt,if_pos hs]
theorem end_end (h : ¬ (0<r.opn∧nextB s r.at'=41)) (hlt : ¬ r.at'<s.size):toEnd s tk true r=(r,decide (r.opn=0)):=by
 unfold toEnd
 rw [runR,if_neg h,if_neg hlt]
theorem end_opens:∀ (f:Nat) (r:Rd S),r.at'≤s.size→toEnd s tk false r=toEnd s tk false (opensR s tk f r)
 | 0,_,_=>rfl
 | f+1,r,hr=>by
  rw [opensR]
  split
  ·rename_i h
   rw [end_open hr h]
   exact end_opens f _ (opn_word (o:=0) hr h).1
  ·rfl
theorem opened_ne:∀ (f:Nat) (r:Rd S),r.at'≤s.size→s.size-r.at'≤f→nextB s (opensR s tk f r).at'≠40
 | 0,r,hr,hf=>by
  have e:r.at'=s.size:=by omega
  rw [opensR,e,nextB,if_pos rfl]
  decide
 | f+1,r,hr,hf=>by
  rw [opensR]
  split
  ·rename_i h
   have h1:=(opn_word (o:=0) hr h).1
   exact opened_ne f _ h1 (by show s.size-(r.at'+1)≤f;omega)
  ·rename_i h;exact h
theorem end_closes:∀ (f:Nat) (r:Rd S),r.at'≤s.size→toEnd s tk true r=toEnd s tk true (closesR s tk f r)
 | 0,_,_=>rfl
 | f+1,r,hr=>by
  rw [closesR]
  split
  ·rename_i h
   rw [end_close hr h]
   exact end_closes f _ (cls_word (o:=0) hr h.2).1
  ·rfl
theorem closed_ne:∀ (f:Nat) (r:Rd S),r.at'≤s.size→s.size-r.at'≤f→¬ (0<(closesR s tk f r).opn∧nextB s (closesR s tk f r).at'=41)
 | 0,r,hr,hf=>by
  have e:r.at'=s.size:=by omega
  rw [closesR,e,nextB,if_pos rfl]
  intro h
  exact absurd h.2 (by decide)
 | f+1,r,hr,hf=>by
  rw [closesR]
  split
  ·rename_i h
   have h1:=(cls_word (o:=0) hr h.2).1
   exact closed_ne f _ h1 (by show s.size-(r.at'+1)≤f;omega)
  ·rename_i h;exact h
theorem end_operand (hr:r.at'≤s.size):((operandR s tk r).2=true∧toEnd s tk false r=toEnd s tk true (operandR s tk r).1∧¬ (0<(operandR s tk r).1.opn∧nextB s (operandR s tk r).1.at'=41))∨((operandR s tk r).2=false∧toEnd s tk false r=((operandR s tk r).1,false)):=by
 have ho:(openedR s tk r).at'≤s.size:=opens_in _ r hr
 have e0:toEnd s tk false r=toEnd s tk false (openedR s tk r):=end_opens _ r hr
 have hne:nextB s (openedR s tk r).at'≠40:=opened_ne _ r hr (Nat.le_refl _)
 cases hd:digB (nextB s (openedR s tk r).at')
 ·cases hl:letB (nextB s (openedR s tk r).at')
  ·right
   have e:=opnd_no (s:=s) (tk:=tk) (r:=r) hd hl
   rw [e]
   exact ⟨rfl,by rw [e0];exact end_none hne hd hl⟩
  ·left
   have e:=opnd_let (s:=s) (tk:=tk) (r:=r) hd hl
   rw [e]
   have h1:=let_pos ho hl
   refine ⟨rfl,?_,closed_ne _ _ h1.2 (by omega)⟩
   rw [e0,end_let ho hl]
   exact end_closes _ _ h1.2
 ·left
  have e:=opnd_dig (s:=s) (tk:=tk) (r:=r) hd
  rw [e]
  have h1:=dig_pos ho hd
  refine ⟨rfl,?_,closed_ne _ _ h1.2 (by omega)⟩
  rw [e0,end_dig ho hd]
  exact end_closes _ _ h1.2
theorem end_loop:∀ (f:Nat) (r:Rd S),r.at'≤s.size→s.size-r.at'≤f→¬ (0<r.opn∧nextB s r.at'=41)→toEnd s tk true r=if (loopR s tk f r).2 then ((loopR s tk f r).1,decide ((loopR s tk f r).1.opn=0)) else ((loopR s tk f r).1,false)
 | 0,r,hr,hf,hc=>by
  rw [loopR,if_pos rfl]
  exact end_end hc (by omega)
 | f+1,r,hr,hf,hc=>by
  by_cases hlt:r.at'<s.size
  ·by_cases hs:signI (nextB s r.at')<0
   ·have e:signR s tk r=(r,false):=by rw [signR,if_pos hs]
    rw [loop_sgn hlt (by rw [e]),e,if_neg (fun e=>Bool.noConfusion e)]
    exact end_bad hc hlt hs
   ·have e:signR s tk r=(wordR s tk 1 r,true):=by rw [signR,if_neg hs]
    have h1:(wordR s tk 1 r).at'≤s.size:=hlt
    rw [end_sign hc hlt hs]
    rcases end_operand (tk:=tk) h1 with ⟨g1,g2,g3⟩ | ⟨g1,g2⟩
    ·rw [loop_on hlt (by rw [e]) (by rw [e];exact g1),e,g2]
     have hat:=operand_at (s:=s) (tk:=tk) (wordR s tk 1 r)
     have hw:(wordR s tk 1 r).at'=r.at'+1:=rfl
     exact end_loop f _ (operand_in _ h1) (by omega) g3
    ·rw [loop_opd hlt (by rw [e]) (by rw [e];exact g1),e,if_neg (fun e=>Bool.noConfusion e)]
     exact g2
  ·rw [loop_end hlt,if_pos rfl]
   exact end_end hc hlt
theorem all_end_eq (hr:r.at'≤s.size):allR s tk r=toEnd s tk false r:=by
 rcases end_operand (tk:=tk) hr with ⟨g1,g2,g3⟩ | ⟨g1,g2⟩
 ·rw [g2,end_loop s.size _ (operand_in _ hr) (by omega) g3]
  unfold allR
  rw [if_pos g1]
 ·rw [g2,all_no g1]
end
theorem leadTo_exact {q:Int→Bool} {t:ByteArray} {m:Nat} (h1:∀ i,i<m→q (byteN t i)=true) (h2:m=t.size∨q (byteN t m)=false):∀ (f i:Nat),i≤m→i+f=t.size→leadTo q t f i=m
 | 0,i,hi,hf=>by
  rcases h2 with h2 | h2
  ·show i=m;omega
  ·by_cases e:i=m
   ·exact e
   ·have:=h1 i (by omega)
    show i=m
    exfalso
    have hz:byteN t i=0:=by
     unfold byteN
     have e2:t.size=t.data.toList.length:=Array.length_toList.symm
     rw [List.getD,List.getElem?_eq_none (by omega)]
     rfl
    have hz2:byteN t m=0:=by
     unfold byteN
     have e2:t.size=t.data.toList.length:=Array.length_toList.symm
     rw [List.getD,List.getElem?_eq_none (by omega)]
     rfl
    rw [hz] at this
    rw [hz2,this] at h2
    cases h2
 | f+1,i,hi,hf=>by
  by_cases e:i=m
  ·rcases h2 with h2 | h2
   ·omega
   ·rw [leadTo,e,if_neg (by rw [h2];decide)]
  ·rw [leadTo,if_pos (h1 i (by omega))]
   exact leadTo_exact h1 h2 f (i+1) (by omega) (by omega)
end Go.Proofs.YtenlladggdcfnaaGreatDoor
namespace Go.Proofs.YtenlladggdcfnaaGreatDoor
open Go.ChangeShapes Go.WideShapes Go.ChangeAt Go.RowKit
set_option maxRecDepth 20000
theorem news5 {w:World} {x:Nd} {n:Nat} (hn:w.heap.size=n):∀ j u,(cellsNd1 x)[j]?=some u→(w.alloc (.cells #[.int .i64 x.op,.int .i64 x.n,.string x.name,.int .i64 x.left,.int .i64 x.right] 172)).cell? ((⟨n,0,none⟩:Addr).add j)=some u:=by
 subst hn
 exact World.news_of_block (cs := #[.int .i64 x.op,.int .i64 x.n,.string x.name,.int .i64 x.left,.int .i64 x.right]) (t:=172) (fr:=(0,0)) (heap_alloc_new _ _)
theorem ones5 {x:Nd}:∀ u∈cellsNd1 x,u.oneCell'=true:=by intro u hu;simp [cellsNd1] at hu;rcases hu with rfl | rfl | rfl | rfl | rfl <;> rfl
theorem name_empty {s:ByteArray} (h:s.size=0):s=noT:=by
 obtain ⟨d⟩:=s
 have:d=#[]:=Array.eq_empty_of_size_eq_zero h
 subst this
 rfl
set_option maxHeartbeats 2000000 in
theorem rparts_any (d:Dm) (b o cap:Nat) (i:Int) (w:World) (hn:d.n≤12) (hM:MemsAt w b o d.n d.mem):Calls Tryz.prog 88 #[.agg #[.string d.name,.int .i64 d.solve,.slice (some ⟨b,o,none⟩) d.n cap],.int .i64 i] w fun e w'=>(∃ A c,e=.returned (.slice A (partsOf d.mem d.n i).length c)∧IntsAt w' A c (partsOf d.mem d.n i))∧Below w.heap.size w w':=by
 obtain ⟨i0,hi0,hz0,hz1,hz2⟩:=info_parts Tryz.infoInt
 have hS:=ownDim_size w d (some ⟨b,o,none⟩) cap 81
 have hB0:=ownDim_below w d (some ⟨b,o,none⟩) cap 81
 have hA:=(ownDim_at w d (some ⟨b,o,none⟩) cap 81).2.2
 obtain ⟨W,hW⟩:∃ W,W=ownDim w d (some ⟨b,o,none⟩) cap 81:=⟨_,rfl⟩
 rw [←hW] at hS hB0 hA
 have HW:Hid (W=ownDim w d (some ⟨b,o,none⟩) cap 81):=hW
 have HB0:Hid (Below w.heap.size w W):=hB0
 have HM:Hid (MemsAt W b o d.n d.mem):=hM.later hB0
 have HA:Hid (W.cell? ⟨w.heap.size,2,none⟩=some (.slice (some ⟨b,o,none⟩) d.n cap)):=hA
 have hsz:w.heap.size<W.heap.size:=by omega
 have hn':(d.n:Int)≤12:=by omega
 obtain ⟨p,hp⟩:∃ p:Nat→Bool,p=partB d.mem i:=⟨_,rfl⟩
 have HP:Hid (p=partB d.mem i):=hp
 unfold partsOf
 rw [←hp]
 clear hM hW hB0 hA hS hp
 go_enter Tryz.func88,Tryz.ntmps88
 go_wp2_with fail
 go_loopg [5,6] d.n (fun g s5 s6 wr => ∃ (k:Nat),k≤d.n∧g=d.n-k∧s6=.int .i64 k∧wr.ownsRow W.heap.size 3 1 s5 (selTo p k).length (mapI (selTo p k))∧Below W.heap.size W wr)
 case atStart=>exact ⟨0,Nat.zero_le _,rfl,rfl,World.ownsRow_nil _ _ _ _,by rw [HW.out];exact Below.refl _ _⟩
 case round =>
  obtain ⟨k,hk,rfl,rfl,hown,hBw⟩:=hrel
  have HWr:Hid (Below W.heap.size W wr):=hBw
  have HO:Hid (wr.ownsRow W.heap.size 3 1 _ (selTo p k).length (mapI (selTo p k))):=hown
  have c2:wr.cell? ⟨w.heap.size,2,none⟩=some (.slice (some ⟨b,o,none⟩) d.n cap):=(hBw.cell (p:=⟨w.heap.size,2,none⟩) hsz).trans HA.out
  have hszr:=hBw.size
  by_cases hlt:k<d.n
  ·have hki:(k:Int)<(d.n:Int):=by omega
   obtain ⟨-,h1,-,-⟩:=(HM.out.later hBw).2 k hlt
   have hlen:=selTo_len p k
   have hpk:p k=((d.mem k).parent == i):=by rw [HP.out];rfl
   clear hBw
   cases hb:p k
   ·have HK:Hid (p k=false):=hb
    rw [hb] at hpk
    have hpe:((d.mem k).parent == i)=false:=hpk.symm
    clear hb hpk hown
    go_wp2_with fail
    go_roundg (d.n-(k+1))
    case measure=>omega
    case rel=>exact ⟨k+1,by omega,rfl,by go_num,by rw [selTo_miss HK.out];exact HO.out,HWr.out⟩
   ·have HK:Hid (p k=true):=hb
    rw [hb] at hpk
    have hpe:((d.mem k).parent == i)=true:=hpk.symm
    clear hb hpk
    go_wp2_with (at_builtin;refine wpList_append_own _ rfl _ _ 22 rfl W.heap.size 3 i0 (.int .i64 0) 1 8 Tryz.underlying22 hi0 hz0 hz1 hz2 rfl (by decide) _ _ _ rfl (hown.alloc _) ⟨wr.heap.size,0,none⟩ 1 1 [.int .i64 k] rfl rfl one_cell one_one (by unfold maxLen;omega) (by omega) (by simp;omega) ?_)
    intro v' w2 hown' hgrow _
    have HB2:Hid (Below W.heap.size W w2):=grown_own HWr.out hown hgrow
    have HO2:Hid (w2.ownsRow W.heap.size 3 1 v' (selTo p (k+1)).length (mapI (selTo p (k+1)))):=by
     show World.ownsRow ..
     rw [selTo_hit HK.out,mapI_snoc,List.length_append];exact hown'
    clear hown' hgrow hown c2
    go_wp2_with fail
    go_roundg (d.n-(k+1))
    case measure=>omega
    case rel=>exact ⟨k+1,by omega,rfl,by go_num,HO2.out,HB2.out⟩
  ·have hke:k=d.n:=by omega
   subst hke
   clear hBw hown
   go_wp2_with fail
   go_ret
   obtain ⟨A,c,h1,h2⟩:=ints_of HO.out
   exact ⟨⟨A,c,by rw [←h1];rfl,h2⟩,onB HB0.out HWr.out⟩
theorem sel_empty {p:Nat→Bool} {n:Nat}:((selTo p n).length=0)↔¬ 0≤findFrom p n 0:=by
 rcases findFrom_cases p n 0 with ⟨h1,h2⟩ | ⟨k,h1,_,h3,h4,_⟩
 ·rw [h1,selTo_none (fun j hj=>h2 j (Nat.zero_le _) (by omega))]
  simp
 ·rw [h1]
  constructor
  ·intro h
   have h5:∀ m,k<m→0<(selTo p m).length:=fun m hm=>by
    induction m with
    | zero=>omega
    | succ m ih =>
     rw [selTo,List.length_append]
     by_cases hk:k=m
     ·subst hk;rw [if_pos h4];simp
     ·have:=ih (by omega);omega
   have:=h5 n (by omega)
   omega
  ·intro h;omega
set_option maxHeartbeats 2000000 in
theorem rleaf_any (d:Dm) (b o cap i:Nat) (w:World) (hn:d.n≤12) (hi:i<d.n) (hM:MemsAt w b o d.n d.mem):Calls Tryz.prog 63 #[.agg #[.string d.name,.int .i64 d.solve,.slice (some ⟨b,o,none⟩) d.n cap],.int .i64 i] w fun e w'=>e=.returned (.bool (leafB d.mem d.n i))∧Below w.heap.size w w':=by
 have hS:=ownDim_size w d (some ⟨b,o,none⟩) cap 81
 have hB0:=ownDim_below w d (some ⟨b,o,none⟩) cap 81
 have hM0:=hM.later hB0
 have hpt:=rparts_any d b o cap i (ownDim w d (some ⟨b,o,none⟩) cap 81) hn hM0
 have HB0:Hid (Below w.heap.size w (ownDim w d (some ⟨b,o,none⟩) cap 81)):=hB0
 obtain ⟨-,-,-,h3⟩:=hM.2 i hi
 have hbw:=hM.1
 have hii:(i:Int)<(d.n:Int):=by omega
 have hn':(d.n:Int)≤12:=by omega
 clear hM hM0 hB0 hS
 by_cases hf:(d.mem i).formula.size=0
 ·have hf':(d.mem i).formula.toList.isEmpty=true:=by rw [empty_same];simpa using hf
  have HR:Hid (leafB d.mem d.n i=(((partsOf d.mem d.n i).length:Int) == 0)):=by
   show _=_
   rw [leafB_parts hf,Bool.eq_iff_iff]
   have:=sel_empty (p:=partB d.mem i) (n:=d.n)
   simp only [Bool.not_eq_true',decide_eq_false_iff_not,beq_iff_eq]
   rw [←this]
   show _↔((partsOf d.mem d.n i).length:Int)=0
   unfold partsOf
   omega
  clear hf
  generalize (partsOf d.mem d.n i).length=np at hpt HR
  go_enter Tryz.func63,Tryz.ntmps63
  go_wp2_with fail
  refine hpt.mono ?_
  rintro e w1 ⟨⟨A',c',rfl,hI⟩,hb1⟩
  go_wp2_with fail
  go_ret
  exact ⟨by rw [HR.out];rfl,onB HB0.out hb1⟩
 ·have hf':(d.mem i).formula.toList.isEmpty=false:=by rw [empty_same];simpa using hf
  have HR:Hid (leafB d.mem d.n i=false):=leafB_told hf
  clear hf hpt
  go_enter Tryz.func63,Tryz.ntmps63
  go_wp2_with fail
  go_ret
  exact ⟨by rw [HR.out];rfl,by go_grown⟩
end Go.Proofs.YtenlladggdcfnaaGreatDoor
namespace Go.Proofs.YtenlladggdcfnaaGreatDoor
def one (b:Bool):Nat:=if b=true then 1 else 0
end Go.Proofs.YtenlladggdcfnaaGreatDoor
