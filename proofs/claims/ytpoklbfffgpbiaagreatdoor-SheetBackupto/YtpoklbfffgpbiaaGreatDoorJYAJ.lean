/-
  What Leaf of package place answers, called in whatever memory: whether a place is of leafs, or what is wrong.
-/
import Derived.OneCell
import Derived.Test.YtpoklbfffgpbiaaGreatDoorJYAI
namespace Go.Proofs.YtpoklbfffgpbiaaGreatDoor
open Go.ChangeShapes Go.WideShapes Go.ChangeAt Go.RowKit
set_option maxRecDepth 20000
def notLeaf (D:Nat→Dm) (L:List Int) (i:Nat):Bool := !leafB (D i).mem (D i).n (L.getD i 0).toNat
def leafV (D:Nat→Dm) (n:Nat) (L:List Int):Bool:=if placeErr D n L=0 then !decide (0≤findFrom (notLeaf D L) n 0) else false
theorem pleaf1_in:EntersO 74:=fun args w=>by simp [callFunc,Tryz.func74];rfl
set_option maxHeartbeats 2000000 in
theorem pleaf1_any (b o n cap k q r bp op cp X:Nat) (D:Nat→Dm) (A:Nat→Option Addr) (C:Nat→Nat) (w:World) (hk:k<n) (hn:n≤4) (hd:(dimErr (D k)).2=0) (hX:X<(D k).n) (hM:DimsAt w b o n D A C) (hx:w.cell? ⟨bp,op+k,none⟩=some (.int .i64 X)) (hq:w.cell? ⟨q,0,none⟩=some (.slice (some ⟨b,o,none⟩) n cap)) (hr:w.cell? ⟨r,0,none⟩=some (.slice (some ⟨bp,op,none⟩) n cp)) :
  Calls Tryz.prog 74 #[.int .i64 k,.pointer (some ⟨q,0,none⟩),.pointer (some ⟨r,0,none⟩)] w fun e w'=>e=.returned (.bool (!leafB (D k).mem (D k).n X))∧Below w.heap.size w w':=by
 obtain ⟨h0,h1,h3,h4⟩:=hM.2 k hk
 have hki:(k:Int)<(n:Int):=by omega
 have hn':(n:Int)≤4:=by omega
 have hte:treeErr (D k) [(X:Int)]=0:=by rw [treeErr_one hd,if_neg (by omega)]
 have hlf:lfOf (D k) (X:Int)=leafB (D k).mem (D k).n X:=by simp [lfOf,hte]
 have HLf:Hid (∀ w',Below w.heap.size w w'→Calls Tryz.prog 75 #[.agg #[.string (D k).name,.int .i64 (D k).solve,.slice (A k) (D k).n (C k)],.int .i64 X] w' fun e w''=>e=.returned (.tuple #[.bool (leafB (D k).mem (D k).n X),.nilIface])∧Below w'.heap.size w' w''):=fun w' hw'=>by
  have h:=tleaf_any (D k) (A k) (C k) X w' (h4.later hw')
  rw [hte,hlf,errV_zero] at h
  exact h
 generalize leafB (D k).mem (D k).n X=y at HLf
 clear hM h4 hte hlf hd
 go_enter Tryz.func74,Tryz.ntmps74
 go_wp2_with fail
 go_region_law ((go_simp;refine (HLf.out _ (by go_grown)).mono ?_;rintro e w2 ⟨rfl,hb2⟩;have hN2:=onB (W0:=w) (by go_grown) hb2;clear hb2))
 all_goals go_wp2_with fail
 all_goals go_ret
 all_goals exact ⟨rfl,hN2⟩
set_option maxHeartbeats 4000000 in
theorem pleaf_any (A0:Option Addr) (cap n:Nat) (D:Nat→Dm) (A:Nat→Option Addr) (C:Nat→Nat) (Ap:Option Addr) (cp:Nat) (L:List Int) (w:World) (hM:DimsV w A0 cap n D A C) (hP:PlAt w Ap cp L):Calls Tryz.prog 47 #[.agg #[.slice A0 n cap],.slice Ap L.length cp] w fun e w'=>e=.returned (.tuple #[.bool (leafV D n L),errV (placeErr D n L)])∧Below w.heap.size w w':=by
 have hB0:=ownOP_below w A0 n cap Ap L.length cp 24 34
 have h:=pcheck_any A0 cap n D A C Ap cp L (ownOP w A0 n cap Ap L.length cp 24 34) (hM.later hB0) (hP.later hB0)
 have HB0:Hid (Below w.heap.size w (ownOP w A0 n cap Ap L.length cp 24 34)):=hB0
 have HM:Hid (DimsV w A0 cap n D A C):=hM
 have HP:Hid (PlAt w Ap cp L):=hP
 clear hM hB0 hP
 by_cases he:placeErr D n L=0
 ·have HI:Hid (InO D n L):=inO_of he
  have HV:Hid (leafV D n L = !decide (0≤findFrom (notLeaf D L) n 0)):=by show _=_;unfold leafV;rw [if_pos he]
  have HE:Hid (errV (placeErr D n L)=.nilIface):=by show _=_;rw [he];rfl
  rw [he,errV_zero] at h
  obtain ⟨hn1,hn4,-,-⟩:=allErr_some HI.out.right
  have hn':(n:Int)≤4:=by omega
  have hl:=HI.out.len
  obtain ⟨hcp,h0 | ⟨bp,op,rfl,hbp,hcell⟩⟩:=HP.out
  ·rw [h0] at hl;simp at hl;omega
  rw [hl] at h HB0
  rw [hl]
  have HC:Hid (∀ j,j<n→w.cell? ⟨bp,op+j,none⟩=some (.int .i64 (L.getD j 0))):=fun j hj=>hcell j (by omega)
  clear he hl hcell hcp
  go_enter Tryz.func47,Tryz.ntmps47
  go_wp2_with fail
  refine h.mono ?_
  rintro e w1 ⟨rfl,hb1⟩
  have hB:Below w.heap.size w w1:=onB HB0.out hb1
  have hz:w.heap.size+1<w1.heap.size:=by have:=hb1.size;rw [ownOP_size] at this;omega
  have ho:w1.cell? ⟨w.heap.size,0,none⟩=some (.slice A0 n cap):=(hb1.cell (p:=⟨w.heap.size,0,none⟩) (by show w.heap.size<_;rw [ownOP_size];omega)).trans (ownOP_o ..)
  have hp:w1.cell? ⟨w.heap.size+1,0,none⟩=some (.slice (some ⟨bp,op,none⟩) n cp):=(hb1.cell (p:=⟨w.heap.size+1,0,none⟩) (by show w.heap.size+1<_;rw [ownOP_size];omega)).trans (ownOP_p ..)
  obtain ⟨hcap,h0 | ⟨b,o,rfl,hMs⟩⟩:=HM.out.later hB
  ·omega
  have hany:=anydim_any 74 w.heap.size (w.heap.size+1) pleaf1_in (some ⟨b,o,none⟩) n cap (notLeaf D L) w1 hn4 (fun j w' hj hw'=>by
   have hlo:=HI.out.lo j hj
   have hhi:=HI.out.hi j hj
   have e1:L.getD j 0=((L.getD j 0).toNat:Int):=by omega
   have hcj:=((onB hB hw').cell (p:=⟨bp,op+j,none⟩) hbp).trans (HC.out j hj)
   rw [e1] at hcj
   exact pleaf1_any b o n cap j w.heap.size (w.heap.size+1) bp op cp (L.getD j 0).toNat D A C w' hj hn4 ((allErr_right HI.out.right).2 j hj) (by omega) (hMs.later hw') hcj ((hw'.cell (p:=⟨w.heap.size,0,none⟩) (by show w.heap.size<_;omega)).trans ho) ((hw'.cell (p:=⟨w.heap.size+1,0,none⟩) hz).trans hp))
  have HB:Hid (Below w.heap.size w w1):=hB
  generalize decide (0≤findFrom (notLeaf D L) n 0)=y at hany HV
  clear hb1 h hMs hB
  go_wp2_with fail
  refine hany.mono ?_
  rintro e w2 ⟨rfl,hb2⟩
  go_wp2_with fail
  go_ret2
  rw [HV.out,HE.out]
  exact ⟨rfl,onB HB.out hb2⟩
 ·have HV:Hid (leafV D n L=false):=by show _=_;unfold leafV;rw [if_neg he]
  have HE:Hid (errV (placeErr D n L)=.iface 70 (.int .i64 (placeErr D n L))):=errV_some he
  rw [errV_some he] at h
  clear he
  generalize placeErr D n L=c at h HE
  generalize L.length=m at h HB0
  go_enter Tryz.func47,Tryz.ntmps47
  go_wp2_with fail
  refine h.mono ?_
  rintro e w1 ⟨rfl,hb1⟩
  go_wp2_with fail
  go_ret2
  rw [HV.out,HE.out]
  exact ⟨rfl,onB HB0.out hb1⟩
end Go.Proofs.YtpoklbfffgpbiaaGreatDoor
namespace Go.Proofs.YtpoklbfffgpbiaaGreatDoor
open Go.ChangeShapes Go.WideShapes Go.ChangeAt Go.RowKit
theorem name_small {D:Nat→Dm} {n:Nat} (h:(allErr D n).2.2=0) {i j:Nat} (hi:i<n) (hj:j<(D i).n):((D i).mem j).name.size≤30:=by
 have h1:=(dimErr_right ((allErr_right h).2 i hi)).2.2.2 j hj
 have h2:nameErr ((D i).mem j).name=0:=by
  unfold memErr at h1
  split at h1
  ·cases h1
  ·rename_i h3;simpa using h3
 unfold nameErr at h2
 split at h2
 ·cases h2
 ·omega
end Go.Proofs.YtpoklbfffgpbiaaGreatDoor
namespace Go.Proofs.YtpoklbfffgpbiaaGreatDoor
open Go.ChangeShapes Go.WideShapes Go.ChangeAt Go.RowKit
set_option maxRecDepth 20000
def badW (x:UInt8):Bool:=x == 61 || x == 46
def nmW (s:ByteArray):Bool := !s.data.toList.any badW && !s.data.toList.isEmpty
theorem textTo_len {D:Nat→Dm} {n:Nat} {L:List Int} (h:InO D n L):∀ k,k≤n→(textTo D L k).length≤k*31
 | 0,_=>by simp [textTo]
 | k+1,hk=>by
  have h1:=textTo_len h k (by omega)
  have h2:(nameB D L k).size≤30:=name_small h.right (by omega) (by have:=h.lo k (by omega);have:=h.hi k (by omega);omega)
  have h3:(nameB D L k).data.toList.length=(nameB D L k).size:=by simp
  rw [textTo,List.length_append,List.length_append]
  split <;> simp at * <;> omega
def IntT (w:World) (A:Option Addr) (c:Nat) (L:List Int):Prop:=L.length≤c∧c≤9223372036854775807∧(L=[]∨∃ b cs fr,A=some ⟨b,0,none⟩∧w.heap[b]?=some (.cells cs 3 fr)∧∀ j,j<L.length→w.cell? ⟨b,j,none⟩=some (.int .i64 (L.getD j 0)))
theorem IntT.at {w:World} {A:Option Addr} {c:Nat} {L:List Int} (h:IntT w A c L):IntsAt w A c L:=by
 obtain ⟨h1,-,h2 | ⟨b,cs,fr,h2,h3,h4⟩⟩:=h
 ·exact ⟨h1,Or.inl h2⟩
 ·exact ⟨h1,Or.inr ⟨b,h2,(Array.getElem?_eq_some_iff.1 h3).1,h4⟩⟩
theorem IntT.nil (w:World) (A:Option Addr) (c:Nat) (h:c≤9223372036854775807):IntT w A c []:=⟨Nat.zero_le _,h,Or.inl rfl⟩
theorem IntT.keep {w w':World} {A:Option Addr} {c:Nat} {L:List Int} (h:IntT w A c L) (hB:∀ (b:Nat) (cs:Array Value) (fr:Nat×Nat),w.heap[b]?=some (Obj.cells cs 3 fr)→w'.heap[b]?=w.heap[b]?):IntT w' A c L:=by
 obtain ⟨h1,h0,h2 | ⟨b,cs,fr,h2,h3,h4⟩⟩:=h
 ·exact ⟨h1,h0,Or.inl h2⟩
 ·have hb:=hB b cs fr h3
  exact ⟨h1,h0,Or.inr ⟨b,cs,fr,h2,hb.trans h3,fun j hj=>(World.cell?_of_block (a:=⟨b,j,none⟩) hb).trans (h4 j hj)⟩⟩
theorem IntT.later {w w':World} {A:Option Addr} {c:Nat} {L:List Int} (h:IntT w A c L) (hB:Below w.heap.size w w'):IntT w' A c L :=
 h.keep fun b _ _ hb=>hB.block b (Array.getElem?_eq_some_iff.1 hb).1
theorem intT_own {w:World} {base:Nat} {v:Value} {L:List Int} (h:w.ownsRow base 3 1 v L.length (mapI L)):∃ A c,v=.slice A L.length c∧IntT w A c L:=by
 rcases h.2 with ⟨rfl,h0⟩ | ⟨g,cap,cur,rfl,hb,hg,hc,hm,_,_⟩
 ·have:L=[]:=List.eq_nil_of_length_eq_zero h0
  subst this
  exact ⟨none,0,rfl,IntT.nil _ _ _ (by omega)⟩
 ·refine ⟨_,cap,rfl,hc,by unfold maxLen at hm;omega,Or.inr ⟨g,cur,_,rfl,hg,fun j hj=>?_⟩⟩
  have hx:=h.cells (g:=g) rfl j (.int .i64 (L.getD j 0)) (by simp [mapI,List.getD,List.getElem?_eq_getElem hj])
  have hadd:(⟨g,0,none⟩:Addr).add j=⟨g,j,none⟩:=by unfold Addr.add;split <;> simp_all
  rw [hadd] at hx
  exact hx
theorem row_ne_int:(3:Nat)≠33:=by decide
theorem IntT.row {w w':World} {base:Nat} {v:Value} {n:Nat} {zs:List Value} {A:Option Addr} {c:Nat} {L:List Int} (h:IntT w A c L) (hown:w.ownsRow base 33 1 v n zs) (hG:w.grownBy w' v.ownBlock):IntT w' A c L:=by
 refine h.keep fun b cs fr hb=>hG.block b (Array.getElem?_eq_some_iff.1 hb).1 fun e=>?_
 rcases hown.2 with ⟨rfl,-⟩ | ⟨g,cap,cur,rfl,-,hg,-⟩
 ·cases e
 ·simp only [Value.ownBlock,Option.some.injEq] at e
  rw [e,hg] at hb
  simp only [Option.some.injEq,Obj.cells.injEq] at hb
  exact row_ne_int hb.2.1.symm
structure RL where
 p:List Int
 A:Option Addr
 c:Nat
def noR:RL:=⟨[],none,0⟩
def lR (xs:List RL):List (List Int):=xs.map RL.p
theorem lR_len (xs:List RL):(lR xs).length=xs.length:=by simp [lR]
theorem lR_append (a b:List RL):lR (a ++ b)=lR a ++ lR b:=by simp [lR]
def cellsR (xs:List RL):List Value:=xs.map fun x=>.slice x.A x.p.length x.c
theorem cellsR_append (a b:List RL):cellsR (a ++ b)=cellsR a ++ cellsR b:=by simp [cellsR]
theorem rl_mem {xs:List RL} {k:Nat} (h:k<xs.length):xs.getD k noR∈xs:=by
 rw [List.getD_eq_getElem?_getD,List.getElem?_eq_getElem h]
 exact List.getElem_mem h
theorem lR_at (xs:List RL) (k:Nat):(lR xs).getD k []=(xs.getD k noR).p:=by
 rw [List.getD_eq_getElem?_getD,List.getD_eq_getElem?_getD,lR,List.getElem?_map]
 cases xs[k]? <;> rfl
theorem cellsR_at {xs:List RL} {k:Nat} (h:k<xs.length):(cellsR xs)[k]?=some (.slice (xs.getD k noR).A (xs.getD k noR).p.length (xs.getD k noR).c):=by
 simp [cellsR,List.getD,h]
def RowsV (w:World) (A:Option Addr) (cap:Nat) (xs:List RL):Prop:=xs.length≤cap∧(xs=[]∨∃ b,A=some ⟨b,0,none⟩∧b<w.heap.size∧∀ k,k<xs.length→w.cell? ⟨b,k,none⟩=some (.slice (xs.getD k noR).A (xs.getD k noR).p.length (xs.getD k noR).c))∧∀ x∈xs,IntT w x.A x.c x.p
theorem RowsV.later {w w':World} {A:Option Addr} {cap:Nat} {xs:List RL} (h:RowsV w A cap xs) (hB:Below w.heap.size w w'):RowsV w' A cap xs:=by
 obtain ⟨h1,h2,h3⟩:=h
 refine ⟨h1,?_,fun x hx=>(h3 x hx).later hB⟩
 rcases h2 with h2 | ⟨b,h2,h4,h5⟩
 ·exact Or.inl h2
 ·exact Or.inr ⟨b,h2,Nat.lt_of_lt_of_le h4 hB.size,fun k hk=>(hB.cell (p:=⟨b,k,none⟩) h4).trans (h5 k hk)⟩
theorem RowsV.nil (w:World) (A:Option Addr) (cap:Nat):RowsV w A cap []:=⟨Nat.zero_le _,Or.inl rfl,fun x hx=>by cases hx⟩
theorem rows_own {w:World} {base:Nat} {v:Value} {xs:List RL} (h:w.ownsRow base 33 1 v xs.length (cellsR xs)) (hp:∀ x∈xs,IntT w x.A x.c x.p):∃ A c,v=.slice A xs.length c∧RowsV w A c xs:=by
 rcases h.2 with ⟨rfl,h0⟩ | ⟨g,cap,cur,rfl,hb,hg,hc,_,_,_⟩
 ·have:xs=[]:=List.eq_nil_of_length_eq_zero h0
  subst this
  exact ⟨none,0,rfl,RowsV.nil _ _ _⟩
 ·refine ⟨_,cap,rfl,hc,Or.inr ⟨g,rfl,(Array.getElem?_eq_some_iff.1 hg).1,fun k hk=>?_⟩,hp⟩
  have y:=h.cells (g:=g) rfl k _ (cellsR_at hk)
  have hadd:(⟨g,0,none⟩:Addr).add k=⟨g,k,none⟩:=by unfold Addr.add;split <;> simp_all
  rw [hadd] at y
  exact y
theorem Tryz.infoRow:(Tryz.prog.info? 33).map (fun i=>(i.zero,i.size,i.bytes))=some (some (.slice none 0 0),1,24):=by kernel_rfl
theorem iclone_any (A:Option Addr) (c:Nat) (L:List Int) (w:World) (hL:L.length≤12) (hP:IntT w A c L):Calls Tryz.prog 102 #[.slice A L.length c] w fun e w'=>(∃ v,e=.returned v∧w'.ownsRow w.heap.size 3 1 v L.length (mapI L))∧Below w.heap.size w w' :=
 iclone_pl A c L w (by omega) (pl_ints hP.at)
theorem own_blk {w:World} {base e size n b:Nat} {v:Value} {xs:List Value} (h:w.ownsRow base e size v n xs) (hb:v.ownBlock=some b):base≤b∧b<w.heap.size∧∃ cur,w.heap[b]?=some (.cells cur e (0,0)):=by
 rcases h.2 with ⟨rfl,-⟩ | ⟨g,cap,cur,rfl,h2,h3,h4⟩
 ·cases hb
 ·cases hb
  exact ⟨h2,(Array.getElem?_eq_some_iff.1 h3).1,cur,h3⟩
theorem own_setc {w:World} {base e size n g j:Nat} {v x:Value} {xs:List Value} (h:w.ownsRow base e size v n xs) (hg:v.ownBlock≠some g):(w.setCell ⟨g,j,none⟩ x).ownsRow base e size v n xs:=by
 refine ⟨h.1,?_⟩
 rcases h.2 with h0 | ⟨g',cap,cur,rfl,h2,h3,h4⟩
 ·exact Or.inl h0
 ·exact Or.inr ⟨g',cap,cur,rfl,h2,by rw [setCell_off _ _ _ _ _ (fun e=>hg (by rw [←e];rfl))];exact h3,h4⟩
theorem own_ne {w:World} {B e T size:Nat} {v:Value} {n:Nat} {xs:List Value} {b:Nat} {cs:Array Value} {fr:Nat×Nat} (hown:w.ownsRow B e size v n xs) (hb:w.heap[b]?=some (.cells cs T fr)) (hTe:T≠e):v.ownBlock≠some b:=by
 rcases hown.2 with ⟨rfl,_⟩ | ⟨g,cap,cur,rfl,_,hg,_⟩
 ·simp [Value.ownBlock]
 ·intro h
  simp only [Value.ownBlock,Option.some.injEq] at h
  subst h
  rw [hg] at hb
  simp only [Option.some.injEq,Obj.cells.injEq] at hb
  exact hTe hb.2.1.symm
theorem own_stays {w w':World} {base e size:Nat} {v:Value} {n:Nat} {xs:List Value} (h:w.ownsRow base e size v n xs) (hB:Below w.heap.size w w'):w'.ownsRow base e size v n xs:=by
 refine ⟨h.1,?_⟩
 rcases h.2 with h0 | ⟨g,cap,cur,rfl,hb,hg,h1⟩
 ·exact Or.inl h0
 ·exact Or.inr ⟨g,cap,cur,rfl,hb,(hB.block g (Array.getElem?_eq_some_iff.1 hg).1).trans hg,h1⟩
theorem find1_in:EntersO 73:=fun args w=>by simp [callFunc,Tryz.func73];rfl
theorem find1_any (m:Mem) (s:ByteArray) (q:Nat) (w:World) (hq:q<w.heap.size) (h:w.cell? ⟨q,0,none⟩=some (.string s)):Calls Tryz.prog 73 #[memV m,.pointer (some ⟨q,0,none⟩)] w fun e w'=>e=.returned (.bool (same m.name s))∧Below w.heap.size w w':=by
 unfold memV
 go_enter Tryz.func73,Tryz.ntmps73
 go_wp2_with fail
 go_ret
 exact ⟨by simp [same],by go_grown⟩
def ownFind (w:World) (d:Dm) (A:Option Addr) (cap:Nat) (s:ByteArray) (T T':Nat):World:=(ownDim w d A cap T).alloc (.cells #[.string s] T')
theorem ownFind_at (w:World) (d:Dm) (A:Option Addr) (cap:Nat) (s:ByteArray) (T T':Nat):(ownFind w d A cap s T T').cell? ⟨w.heap.size,2,none⟩=some (.slice A d.n cap)∧(ownFind w d A cap s T T').cell? ⟨w.heap.size+1,0,none⟩=some (.string s):=by
 refine ⟨?_,?_⟩
 ·unfold ownFind
  rw [World.cell?_alloc_lt _ _ ⟨w.heap.size,2,none⟩ (by rw [ownDim_size];exact Nat.lt_succ_self _)]
  exact (ownDim_at w d A cap T).2.2
 ·unfold ownFind
  rw [←ownDim_size w d A cap T]
  simp
theorem ownFind_size (w:World) (d:Dm) (A:Option Addr) (cap:Nat) (s:ByteArray) (T T':Nat):(ownFind w d A cap s T T').heap.size=w.heap.size+2:=by unfold ownFind;simp [ownDim_size]
theorem ownFind_below (w:World) (d:Dm) (A:Option Addr) (cap:Nat) (s:ByteArray) (T T':Nat):Below w.heap.size w (ownFind w d A cap s T T'):=by unfold ownFind ownDim;go_grown
theorem findErr_dim {d:Dm} {s:ByteArray} (h:(dimErr d).2≠0):findErr d s=(0,(dimErr d).2):=by unfold findErr;rw [if_pos h]
theorem findErr_none {d:Dm} {s:ByteArray} (h:(dimErr d).2=0) (h1:findFrom (fun j=>same (d.mem j).name s) d.n 0<0):findErr d s=(0,5):=by unfold findErr;rw [if_neg (by simpa using h),if_pos h1]
theorem findErr_some {d:Dm} {s:ByteArray} (h:(dimErr d).2=0) (h1 : ¬ findFrom (fun j=>same (d.mem j).name s) d.n 0<0):findErr d s=(findFrom (fun j=>same (d.mem j).name s) d.n 0,0):=by unfold findErr;rw [if_neg (by simpa using h),if_neg h1]
set_option maxHeartbeats 2000000 in
theorem find_any (d:Dm) (A:Option Addr) (cap:Nat) (s:ByteArray) (w:World) (hM:MemsV w A cap d.n d.mem):Calls Tryz.prog 46 #[dimV d A cap,.string s] w fun e w'=>e=.returned (.tuple #[.int .i64 (findErr d s).1,errV (findErr d s).2])∧Below w.heap.size w w':=by
 have hS:=ownFind_size w d A cap s 32 9
 have hB0:=ownFind_below w d A cap s 32 9
 have hck:=dcheck_any d A cap (ownFind w d A cap s 32 9) (hM.later hB0)
 obtain ⟨o2,o3⟩:=ownFind_at w d A cap s 32 9
 unfold dimV at hck ⊢
 have HM:Hid (MemsV w A cap d.n d.mem):=hM
 have H2:Hid ((ownFind w d A cap s 32 9).cell? ⟨w.heap.size,2,none⟩=some (.slice A d.n cap)∧(ownFind w d A cap s 32 9).cell? ⟨w.heap.size+1,0,none⟩=some (.string s)):=⟨o2,o3⟩
 have HB0:Hid (Below w.heap.size w (ownFind w d A cap s 32 9)):=hB0
 have HS:Hid ((ownFind w d A cap s 32 9).heap.size=w.heap.size+2):=hS
 clear hM o2 o3 hB0 hS
 by_cases he:(dimErr d).2=0
 ·obtain ⟨e1,hd1,hd2,-⟩:=dimErr_right he
  rw [he,e1,errV_zero] at hck
  have HE:Hid ((dimErr d).2=0):=he
  clear he e1
  go_enter Tryz.func46,Tryz.ntmps46
  go_wp2_with fail
  refine hck.mono ?_
  rintro e w1 ⟨rfl,hb1⟩
  have hB:Below w.heap.size w w1:=onB HB0.out hb1
  have hz:w.heap.size+1<w1.heap.size:=by
   have:=hb1.size
   rw [HS.out] at this
   omega
  have h2:w1.cell? ⟨w.heap.size,2,none⟩=some (.slice A d.n cap):=(hb1.cell (p:=⟨w.heap.size,2,none⟩) (by show w.heap.size<_;rw [HS.out];omega)).trans H2.out.1
  have h3:w1.cell? ⟨w.heap.size+1,0,none⟩=some (.string s):=(hb1.cell (p:=⟨w.heap.size+1,0,none⟩) (by show w.heap.size+1<_;rw [HS.out];omega)).trans H2.out.2
  obtain ⟨hcap,h0 | ⟨b,o,rfl,hMs⟩⟩:=HM.out.later hB
  ·omega
  have hix:=index_mems 73 (w.heap.size+1) find1_in b o d.n cap d.mem (fun j=>same (d.mem j).name s) w1 hd2 hMs (fun j w' _ hw'=>find1_any (d.mem j) s (w.heap.size+1) w' (Nat.lt_of_lt_of_le hz hw'.size) ((hw'.cell (p:=⟨w.heap.size+1,0,none⟩) hz).trans h3))
  clear hb1 hck hMs h3 HB0 HS H2 HM
  by_cases hk:findFrom (fun j=>same (d.mem j).name s) d.n 0<0
  ·have HK:Hid (findErr d s=(0,5)):=findErr_none HE.out hk
   generalize findFrom (fun j=>same (d.mem j).name s) d.n 0=f at hix hk
   go_wp2_with fail
   refine hix.mono ?_
   rintro e w2 ⟨rfl,hb2⟩
   go_wp2_with fail
   go_ret2
   exact ⟨by rw [HK.out];rfl,onB hB hb2⟩
  ·have HK:Hid (findErr d s=(findFrom (fun j=>same (d.mem j).name s) d.n 0,0)):=findErr_some HE.out hk
   generalize findFrom (fun j=>same (d.mem j).name s) d.n 0=f at hix hk HK
   go_wp2_with fail
   refine hix.mono ?_
   rintro e w2 ⟨rfl,hb2⟩
   go_wp2_with fail
   go_ret2
   exact ⟨by rw [HK.out];rfl,onB hB hb2⟩
 ·have HK:Hid (findErr d s=(0,(dimErr d).2)):=findErr_dim he
  rw [errV_some he] at hck
  have HE:Hid (errV (dimErr d).2=.iface 70 (.int .i64 (dimErr d).2)):=errV_some he
  clear he
  generalize (dimErr d).2=c at hck HK HE
  go_enter Tryz.func46,Tryz.ntmps46
  go_wp2_with fail
  refine hck.mono ?_
  rintro e w1 ⟨rfl,hb1⟩
  go_wp2_with fail
  go_ret2
  exact ⟨by rw [HK.out,HE.out];rfl,onB HB0.out hb1⟩
end Go.Proofs.YtpoklbfffgpbiaaGreatDoor
