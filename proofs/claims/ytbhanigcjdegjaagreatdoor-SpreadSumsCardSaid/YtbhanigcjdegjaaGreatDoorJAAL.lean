/-
  What Leaf of package place answers, called in whatever memory: whether a place is of leafs, or what is wrong.
-/
import Derived.Deep.RegionLaw
import Derived.Test.YtbhanigcjdegjaaGreatDoorJAAK
namespace Go.Proofs.YtbhanigcjdegjaaGreatDoor
open Go.ChangeShapes Go.WideShapes Go.ChangeAt Go.RowKit
set_option maxRecDepth 20000
def notLeaf (D:Nat→Dm) (L:List Int) (i:Nat):Bool := !leafB (D i).mem (D i).n (L.getD i 0).toNat
def leafV (D:Nat→Dm) (n:Nat) (L:List Int):Bool:=if placeErr D n L=0 then !decide (0≤findFrom (notLeaf D L) n 0) else false
theorem pleaf1_in:EntersO 82:=fun args w=>by simp [callFunc,Tryz.func82];rfl
set_option maxHeartbeats 2000000 in
theorem pleaf1_any (b o n cap k q r bp op cp X:Nat) (D:Nat→Dm) (A:Nat→Option Addr) (C:Nat→Nat) (w:World) (hk:k<n) (hn:n≤4) (hd:(dimErr (D k)).2=0) (hX:X<(D k).n) (hM:DimsAt w b o n D A C) (hx:w.cell? ⟨bp,op+k,none⟩=some (.int .i64 X)) (hq:w.cell? ⟨q,0,none⟩=some (.slice (some ⟨b,o,none⟩) n cap)) (hr:w.cell? ⟨r,0,none⟩=some (.slice (some ⟨bp,op,none⟩) n cp)) :
  Calls Tryz.prog 82 #[.int .i64 k,.pointer (some ⟨q,0,none⟩),.pointer (some ⟨r,0,none⟩)] w fun e w'=>e=.returned (.bool (!leafB (D k).mem (D k).n X))∧Below w.heap.size w w':=by
 obtain ⟨h0,h1,h3,h4⟩:=hM.2 k hk
 have hki:(k:Int)<(n:Int):=by omega
 have hn':(n:Int)≤4:=by omega
 have hte:treeErr (D k) [(X:Int)]=0:=by rw [treeErr_one hd,if_neg (by omega)]
 have hlf:lfOf (D k) (X:Int)=leafB (D k).mem (D k).n X:=by simp [lfOf,hte]
 have HLf:Hid (∀ w',Below w.heap.size w w'→Calls Tryz.prog 83 #[.agg #[.string (D k).name,.int .i64 (D k).solve,.slice (A k) (D k).n (C k)],.int .i64 X] w' fun e w''=>e=.returned (.tuple #[.bool (leafB (D k).mem (D k).n X),.nilIface])∧Below w'.heap.size w' w''):=fun w' hw'=>by
  have h:=tleaf_any (D k) (A k) (C k) X w' (h4.later hw')
  rw [hte,hlf,errV_zero] at h
  exact h
 generalize leafB (D k).mem (D k).n X=y at HLf
 clear hM h4 hte hlf hd
 go_enter Tryz.func82,Tryz.ntmps82
 go_wp2_with fail
 go_region_law ((go_simp;refine (HLf.out _ (by go_grown)).mono ?_;rintro e w2 ⟨rfl,hb2⟩;have hN2:=onB (W0:=w) (by go_grown) hb2;clear hb2))
 all_goals go_wp2_with fail
 all_goals go_ret
 all_goals exact ⟨rfl,hN2⟩
set_option maxHeartbeats 4000000 in
theorem pleaf_any (A0:Option Addr) (cap n:Nat) (D:Nat→Dm) (A:Nat→Option Addr) (C:Nat→Nat) (Ap:Option Addr) (cp:Nat) (L:List Int) (w:World) (hM:DimsV w A0 cap n D A C) (hP:PlAt w Ap cp L):Calls Tryz.prog 60 #[.agg #[.slice A0 n cap],.slice Ap L.length cp] w fun e w'=>e=.returned (.tuple #[.bool (leafV D n L),errV (placeErr D n L)])∧Below w.heap.size w w':=by
 have hB0:=ownOP_below w A0 n cap Ap L.length cp 25 27
 have h:=pcheck_any A0 cap n D A C Ap cp L (ownOP w A0 n cap Ap L.length cp 25 27) (hM.later hB0) (hP.later hB0)
 have HB0:Hid (Below w.heap.size w (ownOP w A0 n cap Ap L.length cp 25 27)):=hB0
 have HM:Hid (DimsV w A0 cap n D A C):=hM
 have HP:Hid (PlAt w Ap cp L):=hP
 clear hM hB0 hP
 by_cases he:placeErr D n L=0
 ·have HI:Hid (InO D n L):=inO_of he
  have HV:Hid (leafV D n L = !decide (0≤findFrom (notLeaf D L) n 0)):=by show _=_;unfold leafV;rw [if_pos he]
  have HE:Hid (errV (placeErr D n L)=.nilIface):=by show _=_;rw [he];rfl
  rw [he,errV_zero] at h
  obtain ⟨hn1,hn4,-,-⟩:=allErr_some HI.out.right
  have hn':(n:Int)≤4:=by omega
  have hl:=HI.out.len
  obtain ⟨hcp,h0 | ⟨bp,op,rfl,hbp,hcell⟩⟩:=HP.out
  ·rw [h0] at hl;simp at hl;omega
  rw [hl] at h HB0
  rw [hl]
  have HC:Hid (∀ j,j<n→w.cell? ⟨bp,op+j,none⟩=some (.int .i64 (L.getD j 0))):=fun j hj=>hcell j (by omega)
  clear he hl hcell hcp
  go_enter Tryz.func60,Tryz.ntmps60
  go_wp2_with fail
  refine h.mono ?_
  rintro e w1 ⟨rfl,hb1⟩
  have hB:Below w.heap.size w w1:=onB HB0.out hb1
  have hz:w.heap.size+1<w1.heap.size:=by have:=hb1.size;rw [ownOP_size] at this;omega
  have ho:w1.cell? ⟨w.heap.size,0,none⟩=some (.slice A0 n cap):=(hb1.cell (p:=⟨w.heap.size,0,none⟩) (by show w.heap.size<_;rw [ownOP_size];omega)).trans (ownOP_o ..)
  have hp:w1.cell? ⟨w.heap.size+1,0,none⟩=some (.slice (some ⟨bp,op,none⟩) n cp):=(hb1.cell (p:=⟨w.heap.size+1,0,none⟩) (by show w.heap.size+1<_;rw [ownOP_size];omega)).trans (ownOP_p ..)
  obtain ⟨hcap,h0 | ⟨b,o,rfl,hMs⟩⟩:=HM.out.later hB
  ·omega
  have hany:=anydim_any 82 w.heap.size (w.heap.size+1) pleaf1_in (some ⟨b,o,none⟩) n cap (notLeaf D L) w1 hn4 (fun j w' hj hw'=>by
   have hlo:=HI.out.lo j hj
   have hhi:=HI.out.hi j hj
   have e1:L.getD j 0=((L.getD j 0).toNat:Int):=by omega
   have hcj:=((onB hB hw').cell (p:=⟨bp,op+j,none⟩) hbp).trans (HC.out j hj)
   rw [e1] at hcj
   exact pleaf1_any b o n cap j w.heap.size (w.heap.size+1) bp op cp (L.getD j 0).toNat D A C w' hj hn4 ((allErr_right HI.out.right).2 j hj) (by omega) (hMs.later hw') hcj ((hw'.cell (p:=⟨w.heap.size,0,none⟩) (by show w.heap.size<_;omega)).trans ho) ((hw'.cell (p:=⟨w.heap.size+1,0,none⟩) hz).trans hp))
  have HB:Hid (Below w.heap.size w w1):=hB
  generalize decide (0≤findFrom (notLeaf D L) n 0)=y at hany HV
  clear hb1 h hMs hB
  go_wp2_with fail
  refine hany.mono ?_
  rintro e w2 ⟨rfl,hb2⟩
  go_wp2_with fail
  go_ret2
  rw [HV.out,HE.out]
  exact ⟨rfl,onB HB.out hb2⟩
 ·have HV:Hid (leafV D n L=false):=by show _=_;unfold leafV;rw [if_neg he]
  have HE:Hid (errV (placeErr D n L)=.iface 45 (.int .i64 (placeErr D n L))):=errV_some he
  rw [errV_some he] at h
  clear he
  generalize placeErr D n L=c at h HE
  generalize L.length=m at h HB0
  go_enter Tryz.func60,Tryz.ntmps60
  go_wp2_with fail
  refine h.mono ?_
  rintro e w1 ⟨rfl,hb1⟩
  go_wp2_with fail
  go_ret2
  rw [HV.out,HE.out]
  exact ⟨rfl,onB HB0.out hb1⟩
end Go.Proofs.YtbhanigcjdegjaaGreatDoor
