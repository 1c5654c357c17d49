/-
  For every outline, all entries and every text, together of at most 1048576 values and letters, the Go function tallylaw3.SheetTells returns true, in whatever memory it is called: what sheet.Print and sheet.Parse tell is what the document asks (tallyref2: Cube, SheetText, ReadSheet), with the line that is wrong.
  Conditions: the bound (of a text of 2^44 lines the dims that are read are more than a slice can hold); the listed package-level variables of Go's library begin as the program's text lays them (the card ties them to the pruned copy of the project); it writes nothing but memory that it makes.
-/
import Derived.Test.YtinebmjpdkjooaaGreatDoorRows
import Derived.Test.YtinebmjpdkjooaaGreatDoorTie
import Derived.Test.YtinebmjpdkjooaaGreatDoorCards
import Derived.Test.YtinebmjpdkjooaaGreatDoorSTellsProofMJ
import Derived.Test.YtinebmjpdkjooaaGreatDoorJZBR
import Derived.Test.YtinebmjpdkjooaaGreatDoorJZBS
import Derived.ProofKit
import Derived.LaidMore
import Derived.LaidLaws
import Derived.LaidHandle
import Derived.OpenShut
import Derived.SizedLaws
import Derived.Stop.Joined
import Derived.Stop.LaidErr
import Derived.Lib.SmallJoins
import Derived.SevenTiedAt
import Derived.Carry
import Derived.Lay
import Derived.Deep.DeepHandedRow
import Derived.Shelf.Vars
namespace Go.Proofs.YtinebmjpdkjooaaGreatDoor
open Go Go.ChangeShapes Go.WideShapes Go.ChangeAt Go.RowKit
set_option maxRecDepth 20000
theorem same_errS (c:Int) (w:World) (hk:Kind0 w):Calls Tryz.prog 7 #[errV c,.int .i64 c] w fun e w'=>e=.returned (.bool true)∧Below w.heap.size w w':=by
 by_cases h:c=0
 ·subst h
  have:=same_nil 0 w
  simpa [errV] using this
 ·rw [errV_some h]
  have:=same_hit c c w hk
  simpa using this
noncomputable def tlN (t:ByteArray):Nat:=if psE t=0 then psN t else 0
noncomputable def tlL (t:ByteArray):List En:=if psE t=0 then psL t else []
noncomputable def tlK (t:ByteArray):Nat:=if psE t=0 then 0 else psK t
def TlV (t:ByteArray) (v:Value) (e:Ending) (w':World):Prop := ∃ A0 cap A C xs AE ce,e=.returned (.tuple #[.agg #[.slice A0 (tlN t) cap],.slice AE (tlL t).length ce,.int .i64 (tlK t:Nat),v])∧DimsV w' A0 cap (tlN t) (psD t) A C∧EnsV w' AE ce xs∧lE xs=tlL t
theorem rd_tl {t:ByteArray} {w w':World} {e:Ending} (h:RdRes t w e w'):TlV t (.int .i64 (psE t)) e w':=by
 obtain ⟨h1,h2,-⟩:=h
 unfold TlV tlN tlL tlK
 by_cases h0:psE t=0
 ·obtain ⟨A0,cap,A,C,xs,AE,ce,he,hD,hE,hl⟩:=h2 h0
  simp only [if_pos h0]
  exact ⟨A0,cap,A,C,xs,AE,ce,by rw [he,←hl,lE_len,h0];rfl,hD,hE,hl⟩
 ·simp only [if_neg h0]
  exact ⟨none,0,fun _=>none,fun _=>0,[],none,0,h1 h0,⟨Nat.le_refl _,Or.inl rfl⟩,⟨Nat.le_refl _,by simp,Or.inl rfl⟩,rfl⟩
theorem ps_tl {t:ByteArray} {w w':World} {e:Ending} (h:PsA t w e w'):TlV t (errV (psE t)) e w':=by
 obtain ⟨h1,h2,-⟩:=h
 unfold TlV tlN tlL tlK
 by_cases h0:psE t=0
 ·obtain ⟨A0,cap,A,C,xs,AE,ce,he,hD,hE,hl⟩:=h2 h0
  simp only [if_pos h0]
  exact ⟨A0,cap,A,C,xs,AE,ce,by rw [he,←hl,lE_len,h0,errV_zero];rfl,hD,hE,hl⟩
 ·simp only [if_neg h0]
  exact ⟨none,0,fun _=>none,fun _=>0,[],none,0,by rw [errV_some h0];exact h1 h0,⟨Nat.le_refl _,Or.inl rfl⟩,⟨Nat.le_refl _,by simp,Or.inl rfl⟩,rfl⟩
theorem tl_dims (t:ByteArray):tlN t≤4∧∀ i,i<tlN t→(psD t i).n≤12:=by
 unfold tlN
 by_cases h0:psE t=0
 ·rw [if_pos h0]
  obtain ⟨-,hEns⟩:=she_ok (read_print h0).1
  exact ⟨(allErr_some hEns.right).2.1,fun i hi=>(dimErr_right ((allErr_right hEns.right).2 i hi)).2.2.1⟩
 ·rw [if_neg h0]
  exact ⟨by omega,fun i hi=>absurd hi (Nat.not_lt_zero _)⟩
theorem tl_ents (t:ByteArray):(tlL t).length≤3000∧∀ e∈tlL t,e.pl.length≤4:=by
 unfold tlL
 by_cases h0:psE t=0
 ·rw [if_pos h0]
  obtain ⟨-,hEns⟩:=she_ok (read_print h0).1
  have hn4:psN t≤4:=(allErr_some hEns.right).2.1
  exact ⟨hEns.few,fun e he=>by have:=(hEns.each e he).1.len;omega⟩
 ·rw [if_neg h0]
  exact ⟨by simp,fun e he=>by cases he⟩
set_option maxHeartbeats 16000000 in
theorem stells_law (A0:Option Addr) (cap n:Nat) (D:Nat→Dm) (A:Nat→Option Addr) (C:Nat→Nat) (AE:Option Addr) (ce:Nat) (xs:List EnL) (t:ByteArray) (w:World) (hE:EnvS w) (hK0:Kind0 w) (hM:DimsV w A0 cap n D A C) (hEn:EnsV w AE ce xs) (ht:t.size≤1048576) :
  Calls Tryz.prog 3 #[.agg #[.slice A0 n cap],.slice AE xs.length ce,.string t] w fun e w'=>e=.returned (.bool true)∧Below w.heap.size w w':=by
 have hB0:=ownOut_below w A0 n cap 24
 have hat:=ownOut_at w A0 n cap 24
 have hsz:=ownOut_size w A0 n cap 24
 obtain ⟨W,hW⟩:∃ W,ownOut w A0 n cap 24=W:=⟨_,rfl⟩
 rw [hW] at hB0 hat hsz
 unfold ownOut at hW
 have HA:Hid (∀ w',Below W.heap.size W w'→w'.cell? ⟨w.heap.size,0,none⟩=some (.slice A0 n cap)):=fun w' h=>(h.cell (p:=⟨w.heap.size,0,none⟩) (by show w.heap.size<_;omega)).trans hat
 have HB0:=hid_of hB0
 have low:∀ {w'},Below W.heap.size W w'→Below w.heap.size w w':=fun h=>hB0.trans (h.mono (by omega))
 have HCu:Hid (∀ w',Below W.heap.size W w'→Calls Tryz.prog 4 #[.agg #[.slice A0 n cap],.slice AE xs.length ce] w' fun e w''=>e=.returned (.int .i64 (shE D n (lE xs)))∧Below w'.heap.size w' w''):=fun w' hb=>scube_any A0 cap n D A C AE ce xs w' (hM.later (low hb)) (hEn.later (low hb))
 have HTx:Hid (shE D n (lE xs)=0→∀ w',Below W.heap.size W w'→Calls Tryz.prog 5 #[.agg #[.slice A0 n cap],.slice AE xs.length ce] w' fun e w''=>e=.returned (.string (shV D n (lE xs)))∧Below w'.heap.size w' w''):=fun h0 w' hb=>by
  have h:=stext_any A0 cap n D A C AE ce xs w' (she_ok h0).2 (hM.later (low hb)) (hEn.later (low hb))
  unfold shV
  rw [if_pos h0]
  exact h
 have HV0:Hid (shE D n (lE xs)≠0→shV D n (lE xs)=⟨#[]⟩):=fun h0=>by unfold shV;rw [if_neg h0]
 have HPr:Hid (∀ w',Below W.heap.size W w'→Calls Tryz.prog 6 #[.agg #[.slice A0 n cap],.slice AE xs.length ce] w' fun e w''=>e=.returned (.tuple #[.string (shV D n (lE xs)),errV (shE D n (lE xs))])∧Below w'.heap.size w' w''):=fun w' hb=>sprint_any A0 cap n D A C AE ce xs w' (hE.later (low hb)).1 (hM.later (low hb)) (hEn.later (low hb))
 have HEr1:Hid (∀ w',Below W.heap.size W w'→Calls Tryz.prog 7 #[errV (shE D n (lE xs)),.int .i64 (shE D n (lE xs))] w' fun e w''=>e=.returned (.bool true)∧Below w'.heap.size w' w''):=fun w' hb=>same_errS _ w' (hK0.later (low hb))
 have HEr2:Hid (∀ w',Below W.heap.size W w'→Calls Tryz.prog 7 #[errV (psE t),.int .i64 (psE t)] w' fun e w''=>e=.returned (.bool true)∧Below w'.heap.size w' w''):=fun w' hb=>same_errS _ w' (hK0.later (low hb))
 have HRd:Hid (∀ w',Below W.heap.size W w'→Calls Tryz.prog 8 #[.string t] w' fun e w''=>TlV t (.int .i64 (psE t)) e w''∧Below w'.heap.size w' w''):=fun w' hb=>(rsheet_any t w' ht).mono fun _ _ h=>⟨rd_tl h,h.2.2⟩
 have HPs:Hid (∀ w',Below W.heap.size W w'→Calls Tryz.prog 9 #[.string t] w' fun e w''=>TlV t (errV (psE t)) e w''∧Below w'.heap.size w' w''):=fun w' hb=>(sparse_any t w' (hE.later (low hb)) ht).mono fun _ _ h=>⟨ps_tl h,h.2.2⟩
 obtain ⟨hn4,hd12⟩:=tl_dims t
 obtain ⟨hl3,hp4⟩:=tl_ents t
 have HOut:Hid (∀ (A1:Option Addr) (c1:Nat) (A1':Nat→Option Addr) (C1':Nat→Nat) (A2:Option Addr) (c2:Nat) (A2':Nat→Option Addr) (C2':Nat→Nat) (w':World),DimsV w' A1 c1 (tlN t) (psD t) A1' C1'→DimsV w' A2 c2 (tlN t) (psD t) A2' C2'→Calls Tryz.prog 10 #[.agg #[.slice A1 (tlN t) c1],.agg #[.slice A2 (tlN t) c2]] w' fun e w''=>e=.returned (.bool true)∧Below w'.heap.size w' w''):=fun A1 c1 A1' C1' A2 c2 A2' C2' w' h1 h2=>sameout_any A1 A2 c1 c2 (tlN t) (psD t) A1' C1' A2' C2' w' hn4 hd12 h1 h2
 have HSe:Hid (∀ (A1:Option Addr) (c1:Nat) (A2:Option Addr) (c2:Nat) (ys zs:List EnL) (w':World),lE ys=tlL t→lE zs=tlL t→EnsV w' A1 c1 ys→EnsV w' A2 c2 zs→Calls Tryz.prog 11 #[.slice A1 (tlL t).length c1,.slice A2 (tlL t).length c2] w' fun e w''=>e=.returned (.bool true)∧Below w'.heap.size w' w''):=fun A1 c1 A2 c2 ys zs w' hy hz h1 h2=>by
  have hyl:ys.length=(tlL t).length:=by rw [←hy,lE_len]
  have hzl:zs.length=(tlL t).length:=by rw [←hz,lE_len]
  rw [←hyl] at hl3
  have h:=sameents_any A1 A2 c1 c2 ys zs w' (hy.trans hz.symm) hl3 (fun k hk=>hp4 _ (by rw [←hy];unfold lE;exact List.mem_map.2 ⟨_,enl_mem hk,rfl⟩)) h1 h2
  rw [hyl,hzl] at h
  exact h
 unfold TlV at HRd HPs
 clear hB0 hat hM hEn hE hK0 hn4 hd12 hl3 hp4 low ht
 generalize tlN t=N2 at HRd HPs HOut
 generalize tlL t=L2 at HRd HPs HSe
 generalize tlK t=K2 at HRd HPs
 generalize psD t=D2 at HRd HPs HOut
 generalize errV (psE t)=ev2 at HPs HEr2
 generalize psE t=E2 at HRd HEr2
 generalize errV (shE D n (lE xs))=ev1 at HPr HEr1
 generalize shV D n (lE xs)=V at HTx HV0 HPr
 generalize shE D n (lE xs)=E1 at HCu HTx HV0 HPr HEr1
 generalize xs.length=xl at HCu HTx HPr ⊢
 generalize L2.length=m2 at HRd HPs HSe
 go_enter Tryz.func3,Tryz.ntmps3
 have a0:=HA.out W (Below.refl _ _)
 go_wp2_with fail
 refine (HCu.out W (Below.refl _ _)).mono ?_
 rintro e w1 ⟨rfl,hb1⟩
 have HBw1:=hid_of hb1
 have a1:=HA.out w1 hb1
 clear a0 hb1
 by_cases h0:E1=0
 ·subst h0
  have htx:=HTx.out rfl w1 HBw1.out
  clear HV0
  go_wp2_with fail
  refine htx.mono ?_
  rintro e w2 ⟨rfl,hb2⟩
  have HBw2:=hid_of (onB HBw1.out hb2)
  have a2:=HA.out w2 HBw2.out
  clear hb2 a1 htx
  go_wp2_with fail
  refine (HPr.out w2 HBw2.out).mono ?_
  rintro e w3 ⟨rfl,hb3⟩
  have HBw3:=hid_of (onB HBw2.out hb3)
  clear hb3
  go_wp2_with fail
  refine (HEr1.out w3 HBw3.out).mono ?_
  rintro e w4 ⟨rfl,hb4⟩
  have HBw4:=hid_of (onB HBw3.out hb4)
  clear hb4
  go_wp2_with fail
  refine (HRd.out w4 HBw4.out).mono ?_
  rintro e w5 ⟨⟨A1,c1,A1',C1',xs1,E1a,d1,rfl,hD1,hX1,hl1⟩,hb5⟩
  have HBw5:=hid_of (onB HBw4.out hb5)
  obtain ⟨Y1,hY1⟩:∃ Y1,w5.alloc (.cells #[.slice A1 N2 c1] 24)=Y1:=⟨_,rfl⟩
  have hbY:Below w5.heap.size w5 Y1:=by rw [←hY1];exact (Below.refl _ _).alloc (Nat.le_refl _) _
  have hcY:Y1.heap[w5.heap.size]?=some (.cells #[.slice A1 N2 c1] 24 (0,0)):=by rw [←hY1];exact heap_alloc_new ..
  have hsY:w5.heap.size<Y1.heap.size:=(Array.getElem?_eq_some_iff.1 hcY).1
  have HC1:Hid (∀ w',Below Y1.heap.size Y1 w'→w'.cell? ⟨w5.heap.size,0,none⟩=some (.slice A1 N2 c1)):=fun w' hb=>(hb.cell (p:=⟨w5.heap.size,0,none⟩) hsY).trans ((Lib.cell_of_heap hcY 0).trans rfl)
  have HBY:=hid_of (onB HBw5.out hbY)
  have HD1:=hid_of (hD1.later hbY)
  have HX1:=hid_of (hX1.later hbY)
  have HL1:=hid_of hl1
  clear hb5 hD1 hX1 hl1 hbY hcY hsY
  go_wp2_with fail
  refine (HPs.out Y1 HBY.out).mono ?_
  rintro e w6 ⟨⟨A2,c2,A2',C2',xs2,E2a,d2,rfl,hD2,hX2,hl2⟩,hb6⟩
  have HBw6:=hid_of (onB HBY.out hb6)
  obtain ⟨Y2,hY2⟩:∃ Y2,w6.alloc (.cells #[.slice A2 N2 c2] 24)=Y2:=⟨_,rfl⟩
  have hbZ:Below w6.heap.size w6 Y2:=by rw [←hY2];exact (Below.refl _ _).alloc (Nat.le_refl _) _
  have hcZ:Y2.heap[w6.heap.size]?=some (.cells #[.slice A2 N2 c2] 24 (0,0)):=by rw [←hY2];exact heap_alloc_new ..
  have hsZ:w6.heap.size<Y2.heap.size:=(Array.getElem?_eq_some_iff.1 hcZ).1
  have HC2:Hid (∀ w',Below Y2.heap.size Y2 w'→w'.cell? ⟨w6.heap.size,0,none⟩=some (.slice A2 N2 c2)):=fun w' hb=>(hb.cell (p:=⟨w6.heap.size,0,none⟩) hsZ).trans ((Lib.cell_of_heap hcZ 0).trans rfl)
  have hB12:=onB hb6 hbZ
  have HC3:Hid (∀ w',Below Y2.heap.size Y2 w'→w'.cell? ⟨w5.heap.size,0,none⟩=some (.slice A1 N2 c1)):=fun w' hb=>HC1.out w' (onB hB12 hb)
  have HBZ:=hid_of (onB HBw6.out hbZ)
  have HD2:=hid_of (hD2.later hbZ)
  have HX2:=hid_of (hX2.later hbZ)
  have HD1':=hid_of (HD1.out.later hB12)
  have HX1':=hid_of (HX1.out.later hB12)
  have HL2:=hid_of hl2
  clear hb6 hD2 hX2 hl2 hbZ hcZ hsZ hB12
  go_wp2_with fail
  refine (HEr2.out Y2 HBZ.out).mono ?_
  rintro e w7 ⟨rfl,hb7⟩
  have HBw7:=hid_of hb7
  have p1:=HC2.out w7 hb7
  have p2:=HC3.out w7 hb7
  clear hb7
  go_wp2_with fail
  refine (HOut.out A2 c2 A2' C2' A1 c1 A1' C1' w7 (HD2.out.later HBw7.out) (HD1'.out.later HBw7.out)).mono ?_
  rintro e w8 ⟨rfl,hb8⟩
  have HBw8:=hid_of (onB HBw7.out hb8)
  clear hb8 p1 p2
  go_wp2_with fail
  refine (HSe.out E2a d2 E1a d1 xs2 xs1 w8 HL2.out HL1.out (HX2.out.later HBw8.out) (HX1'.out.later HBw8.out)).mono ?_
  rintro e w9 ⟨rfl,hb9⟩
  have HBw9:=hid_of (onB HBw8.out hb9)
  clear hb9
  go_wp2_with fail
  go_ret
  exact ⟨rfl,HB0.out.trans ((HBZ.out.trans (HBw9.out.mono HBZ.out.size)).mono (by omega))⟩
 ·have hv:=HV0.out h0
  have h0':(E1 == 0)=false:=by simpa using h0
  subst hv
  clear HV0 HTx
  go_wp2_with fail
  refine (HPr.out w1 HBw1.out).mono ?_
  rintro e w3 ⟨rfl,hb3⟩
  have HBw3:=hid_of (onB HBw1.out hb3)
  clear hb3
  go_wp2_with fail
  refine (HEr1.out w3 HBw3.out).mono ?_
  rintro e w4 ⟨rfl,hb4⟩
  have HBw4:=hid_of (onB HBw3.out hb4)
  clear hb4
  go_wp2_with fail
  refine (HRd.out w4 HBw4.out).mono ?_
  rintro e w5 ⟨⟨A1,c1,A1',C1',xs1,E1a,d1,rfl,hD1,hX1,hl1⟩,hb5⟩
  have HBw5:=hid_of (onB HBw4.out hb5)
  obtain ⟨Y1,hY1⟩:∃ Y1,w5.alloc (.cells #[.slice A1 N2 c1] 24)=Y1:=⟨_,rfl⟩
  have hbY:Below w5.heap.size w5 Y1:=by rw [←hY1];exact (Below.refl _ _).alloc (Nat.le_refl _) _
  have hcY:Y1.heap[w5.heap.size]?=some (.cells #[.slice A1 N2 c1] 24 (0,0)):=by rw [←hY1];exact heap_alloc_new ..
  have hsY:w5.heap.size<Y1.heap.size:=(Array.getElem?_eq_some_iff.1 hcY).1
  have HC1:Hid (∀ w',Below Y1.heap.size Y1 w'→w'.cell? ⟨w5.heap.size,0,none⟩=some (.slice A1 N2 c1)):=fun w' hb=>(hb.cell (p:=⟨w5.heap.size,0,none⟩) hsY).trans ((Lib.cell_of_heap hcY 0).trans rfl)
  have HBY:=hid_of (onB HBw5.out hbY)
  have HD1:=hid_of (hD1.later hbY)
  have HX1:=hid_of (hX1.later hbY)
  have HL1:=hid_of hl1
  clear hb5 hD1 hX1 hl1 hbY hcY hsY
  go_wp2_with fail
  refine (HPs.out Y1 HBY.out).mono ?_
  rintro e w6 ⟨⟨A2,c2,A2',C2',xs2,E2a,d2,rfl,hD2,hX2,hl2⟩,hb6⟩
  have HBw6:=hid_of (onB HBY.out hb6)
  obtain ⟨Y2,hY2⟩:∃ Y2,w6.alloc (.cells #[.slice A2 N2 c2] 24)=Y2:=⟨_,rfl⟩
  have hbZ:Below w6.heap.size w6 Y2:=by rw [←hY2];exact (Below.refl _ _).alloc (Nat.le_refl _) _
  have hcZ:Y2.heap[w6.heap.size]?=some (.cells #[.slice A2 N2 c2] 24 (0,0)):=by rw [←hY2];exact heap_alloc_new ..
  have hsZ:w6.heap.size<Y2.heap.size:=(Array.getElem?_eq_some_iff.1 hcZ).1
  have HC2:Hid (∀ w',Below Y2.heap.size Y2 w'→w'.cell? ⟨w6.heap.size,0,none⟩=some (.slice A2 N2 c2)):=fun w' hb=>(hb.cell (p:=⟨w6.heap.size,0,none⟩) hsZ).trans ((Lib.cell_of_heap hcZ 0).trans rfl)
  have hB12:=onB hb6 hbZ
  have HC3:Hid (∀ w',Below Y2.heap.size Y2 w'→w'.cell? ⟨w5.heap.size,0,none⟩=some (.slice A1 N2 c1)):=fun w' hb=>HC1.out w' (onB hB12 hb)
  have HBZ:=hid_of (onB HBw6.out hbZ)
  have HD2:=hid_of (hD2.later hbZ)
  have HX2:=hid_of (hX2.later hbZ)
  have HD1':=hid_of (HD1.out.later hB12)
  have HX1':=hid_of (HX1.out.later hB12)
  have HL2:=hid_of hl2
  clear hb6 hD2 hX2 hl2 hbZ hcZ hsZ hB12
  go_wp2_with fail
  refine (HEr2.out Y2 HBZ.out).mono ?_
  rintro e w7 ⟨rfl,hb7⟩
  have HBw7:=hid_of hb7
  have p1:=HC2.out w7 hb7
  have p2:=HC3.out w7 hb7
  clear hb7
  go_wp2_with fail
  refine (HOut.out A2 c2 A2' C2' A1 c1 A1' C1' w7 (HD2.out.later HBw7.out) (HD1'.out.later HBw7.out)).mono ?_
  rintro e w8 ⟨rfl,hb8⟩
  have HBw8:=hid_of (onB HBw7.out hb8)
  clear hb8 p1 p2
  go_wp2_with fail
  refine (HSe.out E2a d2 E1a d1 xs2 xs1 w8 HL2.out HL1.out (HX2.out.later HBw8.out) (HX1'.out.later HBw8.out)).mono ?_
  rintro e w9 ⟨rfl,hb9⟩
  have HBw9:=hid_of (onB HBw8.out hb9)
  clear hb9
  go_wp2_with fail
  go_ret
  exact ⟨rfl,HB0.out.trans ((HBZ.out.trans (HBw9.out.mono HBZ.out.size)).mono (by omega))⟩
end Go.Proofs.YtinebmjpdkjooaaGreatDoor
namespace Go.Proofs.YtinebmjpdkjooaaGreatDoor.sheetTells
open Go Go.ChangeShapes Go.WideShapes Go.ChangeAt Go.WideMaps Go.WideElems Go.RowKit Go.Joins
open Go.ChangeMaps (open_string shut_string)
set_option linter.unusedVariables false

theorem rtT : (Tryz.prog.cutTypes.find? (·.1 == "internal/reflectlite.rtype")).map (·.2) = some 165 := by kernel_rfl
theorem oneRow : ((List.range 327).filter fun t => Tryz.prog.rowNamed t [101, 114, 114, 111, 114]) = [29] := by kernel_rfl
theorem sizeT : Tryz.prog.types.size = 327 := by kernel_rfl
theorem gErrT : Tryz.prog.globalNamed "errors.errorType" = some 0 := by kernel_rfl
theorem handleE : typeHandle Tryz.prog 29 = .pointer (some ⟨9, 29, none⟩) := by kernel_rfl
theorem kind_of {W : World} (h : laidMetH Tryz.prog laidL W) : Kind0 W := by
  have h' : laidMet Tryz.prog [("math/bits.deBruijn32tab", Rows.laid_math_bits_deBruijn32tab), ("math/bits.deBruijn64tab", Rows.laid_math_bits_deBruijn64tab), ("internal/strconv.uint64pow10", Rows.laid_internal_strconv_uint64pow10), ("unicode/utf8.acceptRanges", Rows.laid_unicode_utf8_acceptRanges), ("strconv.ErrRange", Rows.laid_strconv_ErrRange), ("strconv.ErrSyntax", Rows.laid_strconv_ErrSyntax), ("unicode/utf8.first", Rows.laid_unicode_utf8_first)] W ∧ handlesMet Tryz.prog [("errors.errorType", Rows.laid_errors_errorType)] W := h
  obtain ⟨-, hh⟩ := h'
  obtain ⟨name, u, ty, e1, e2, e3, e4, e5⟩ := hh _ (List.mem_singleton.2 rfl)
  have en : name = [101, 114, 114, 111, 114] := (Option.some.inj e1).symm
  subst en
  obtain rfl := Option.some.inj (rtT.symm.trans e2)
  have hm : ty ∈ (List.range 327).filter fun t => Tryz.prog.rowNamed t [101, 114, 114, 111, 114] := List.mem_filter.2 ⟨List.mem_range.2 (by rw [← sizeT]; exact e3), e4⟩
  rw [oneRow] at hm
  obtain rfl := List.mem_singleton.1 hm
  rw [handleE] at e5
  have := World.var?_cell gErrT e5 0
  unfold Kind0
  simpa using this
theorem cellsPow : Tryz.prog.cellsOf 202 = 20 := by kernel_rfl
theorem cellsU : Tryz.prog.cellsOf 159 = 1 := by kernel_rfl
theorem cellsE : Tryz.prog.cellsOf 293 = 1 := by kernel_rfl
theorem cellsS : Tryz.prog.cellsOf 9 = 1 := by kernel_rfl
theorem gPow : Tryz.prog.globalNamed "internal/strconv.uint64pow10" = some 1 := by kernel_rfl
theorem tPow : (Tryz.prog.globals[1]?).map (·.type) = some 202 := by kernel_rfl
theorem gSyn : Tryz.prog.globalNamed "strconv.ErrSyntax" = some 7 := by kernel_rfl
theorem tSyn : (Tryz.prog.globals[7]?).map (·.type) = some 29 := by kernel_rfl
theorem gRan : Tryz.prog.globalNamed "strconv.ErrRange" = some 8 := by kernel_rfl
theorem tRan : (Tryz.prog.globals[8]?).map (·.type) = some 29 := by kernel_rfl
theorem star : "*" ++ "errors.errorString" = "*errors.errorString" := by decide
theorem rowE (u : TypeId) (h : Tryz.prog.typeName? 3 u = some "*errors.errorString") : u = 291 :=
  typeName_ptr_named (nm := "errors.errorString") (by rw [star]; kernel_rfl) (by kernel_rfl) (by decide) u (by rw [star]; exact h)
theorem powData : (Rows.laid_internal_strconv_uint64pow10 : DataW Unit) = Lib.tabData .u64 Lib.pow10Tab := by kernel_rfl
theorem env_of {W : World} (h0 : laidMetH Tryz.prog laidL W) (hs : W.ShapedOpen Tryz.prog) : EnvS W := by
  have h' : laidMet Tryz.prog [("math/bits.deBruijn32tab", Rows.laid_math_bits_deBruijn32tab), ("math/bits.deBruijn64tab", Rows.laid_math_bits_deBruijn64tab), ("internal/strconv.uint64pow10", Rows.laid_internal_strconv_uint64pow10), ("unicode/utf8.acceptRanges", Rows.laid_unicode_utf8_acceptRanges), ("strconv.ErrRange", Rows.laid_strconv_ErrRange), ("strconv.ErrSyntax", Rows.laid_strconv_ErrSyntax), ("unicode/utf8.first", Rows.laid_unicode_utf8_first)] W ∧ handlesMet Tryz.prog [("errors.errorType", Rows.laid_errors_errorType)] W := h0
  have h := h'.1
  have h3 : laidMet Tryz.prog (("internal/strconv.uint64pow10", Rows.laid_internal_strconv_uint64pow10) :: [("unicode/utf8.acceptRanges", Rows.laid_unicode_utf8_acceptRanges), ("strconv.ErrRange", Rows.laid_strconv_ErrRange), ("strconv.ErrSyntax", Rows.laid_strconv_ErrSyntax), ("unicode/utf8.first", Rows.laid_unicode_utf8_first)]) W := laidMet.tail (laidMet.tail h)
  have h5 : laidMet Tryz.prog (("strconv.ErrRange", Rows.laid_strconv_ErrRange) :: [("strconv.ErrSyntax", Rows.laid_strconv_ErrSyntax), ("unicode/utf8.first", Rows.laid_unicode_utf8_first)]) W := laidMet.tail (laidMet.tail h3)
  have h6 : laidMet Tryz.prog (("strconv.ErrSyntax", Rows.laid_strconv_ErrSyntax) :: [("unicode/utf8.first", Rows.laid_unicode_utf8_first)]) W := laidMet.tail h5
  rw [powData] at h3
  obtain ⟨a0, s0, hv0, -, -, -⟩ := laid_sentinel h6 gSyn tSyn Tryz.underlying29 rowE Tryz.underlying291 Tryz.underlying293 rfl rfl Tryz.underlying9 cellsE cellsS
  obtain ⟨a1, s1, hv1, -, -, -⟩ := laid_sentinel h5 gRan tRan Tryz.underlying29 rowE Tryz.underlying291 Tryz.underlying293 rfl rfl Tryz.underlying9 cellsE cellsS
  exact ⟨Lib.tabIs_of_head gPow tPow Tryz.underlying202 Tryz.underlying159 cellsU cellsPow h3, ⟨_, _, hv0⟩, ⟨_, _, hv1⟩,
    cell_of_shapedOpen_int (g := 2) (zero := #[.int .i64 0]) (t := 3) hs (of_decide_eq_true (by kernel_rfl)) (by kernel_rfl) rfl (by kernel_rfl) (by kernel_rfl) Tryz.underlying3⟩

set_option maxRecDepth 100000 in
theorem lifted (os : Os) (started : os.Started) (H : Type) (enc : TypeId × Value → H) (F : Stop.Interp) :
    ReturnsInHanded {} Tryz.checked os 3 .any ((Rows.OpenSpec.upto Rows.sheetTellsSpec).preRow enc Tryz.prog Tryz.f3 Rows.sheetTellsUptoRow.domain false Rows.sheetTellsUptoRow.laid) (((Rows.OpenSpec.upto Rows.sheetTellsSpec).at F).post enc Tryz.prog Tryz.f3 false true false false) := by
  obtain ⟨places, hx⟩ := reads os enc
  have hok : Input.okWideB Tryz.prog (((World.doorLaid Tryz.prog 400 os).layVars Tryz.prog dataL).forCall (fun _ _ => 0) ⟨#[], #[.agg #[.slice none 0 0], .slice none 0 0, .string ⟨#[]⟩], []⟩) 3 ⟨#[], #[.agg #[.slice none 0 0], .slice none 0 0, .string ⟨#[]⟩], []⟩ = true := by kernel_rfl
  refine returnsInHanded_of_row (C := Tryz.checked) (s := Rows.OpenSpec.upto Rows.sheetTellsSpec) own started (by kernel_rfl) Tryz.func3
    ⟨(World.doorLaid Tryz.prog 400 os).layVars Tryz.prog dataL, fun _ _ => 0, ⟨#[], #[.agg #[.slice none 0 0], .slice none 0 0, .string ⟨#[]⟩], []⟩, (World.layVars_os _ _ _).trans rfl, World.shaped_of_ZipB (by kernel_rfl) (by kernel_rfl), (Input.okWide_of_okWideB (base := 0) hok).1, (Input.okWide_of_okWideB hok).2,
      OpenSpec.preRow_of_cond 8 hx (by kernel_rfl) (fun k hk => by cases hk; kernel_rfl) (by kernel_rfl) (door_met os _), by
        simp only [Assume.holds]
        exact ⟨by simp, by simp, fun _ => Modest.zero, by simp, by simp⟩⟩ ?_
  intro W base args ds gs before hval0 hW _ hcond _ hL hsh _
  have hval : ∀ (j : Nat) t v, Tryz.f3.params[j]? = some t → args[j]? = some v → Value.okWide Tryz.prog W .any base t v := hval0
  have hW' := hW
  have hlt := hW.lt
  obtain ⟨p, q, hA0, hV, rfl, hfz, hnd⟩ := hW
  have hA : DataW.TrodAll enc Tryz.prog W 0 (fun _ => true) true Tryz.f3.params.toList args.toList ds p := hA0
  rw [Tryz.params3] at hA hval
  obtain ⟨v0, vs0, d0, ds0, p0, q0, hargs0, rfl, rfl, h0, r0⟩ := trodAll_cons hA
  obtain ⟨v1, vs1, d1, ds1, p1, q1, hargs1, rfl, rfl, h1, r1⟩ := trodAll_cons r0
  obtain ⟨v2, vs2, d2, ds2, p2, q2, hargs2, rfl, rfl, h2, r2⟩ := trodAll_cons r1
  obtain ⟨rfl, rfl, rfl⟩ := trodAll_nil r2
  obtain rfl : args = #[v0, v1, v2] := by cases args; simp_all
  obtain ⟨rfl, rfl⟩ := trodVars_none hV
  obtain ⟨A0, c0, n0, D0, AA0, C0, rfl, hl0⟩ := open_outline (hval 0 24 v0 rfl rfl) h0
  obtain ⟨A1, c1, l1, rfl, hl1⟩ := open_ens (hval 1 25 v1 rfl rfl) h1
  obtain ⟨s2, rfl, rfl, rfl, hs2⟩ := open_string Tryz.underlying9 (hval 2 9 v2 rfl rfl) h2
  have hb2 : s2.size ≤ 1048576 := by
    have h4 := of_decide_eq_true (hcond _ rfl)
    simp only [List.append_nil, Rows.uptoBulkAll, Rows.uptoBulk] at h4
    have h5 : s2.data.toList.length = s2.size := by simp
    omega
  have hEnv := env_of hL hsh
  have hKind := kind_of hL
  clear hA0 hval0 hL hcond
  simp only [List.append_nil] at hW' hlt
  refine (stells_law A0 c0 n0 D0 AA0 C0 A1 c1 l1 s2 W hEnv hKind hl0 hl1 hb2).mono fun e W' ⟨he, hg⟩ => ?_
  subst he
  refine ⟨_, rfl, post_below (pa := p0 ++ p1) (pv := []) hW' (fun _ _ _ => trodAll_mk1 (shut_bool Tryz.underlying4 _)) (fun sp hsp => ?_) (fun _ _ => rfl) (by simp) (hg.frame _)⟩
  have g0 := WideElems.Trod_stays (W' := W') (sp' := sp) (by kernel_rfl) (by kernel_rfl) (of_decide_eq_true (by kernel_rfl)) h0 (fun y hy => hg.same (hlt y (by simp [hy]))) (fun y hy => hsp y (by simp [hy]))
  have g1 := WideElems.Trod_stays (W' := W') (sp' := sp) (by kernel_rfl) (by kernel_rfl) (of_decide_eq_true (by kernel_rfl)) h1 (fun y hy => hg.same (hlt y (by simp [hy]))) (fun y hy => hsp y (by simp [hy]))
  have g := trodAll_cons_mk g0 (trodAll_cons_mk g1 (trodAll_cons_mk (shut_string Tryz.underlying9 hs2) trodAll_mk0))
  simp only [List.append_nil] at g
  exact g

theorem said : Rows.SheetTellsUptoSaid :=
  OpenClaim.holds_of_cond 3 Tryz.f3 rfl rfl rfl rfl rfl rfl rfl ⟨rfl, rfl, rfl, rfl, rfl⟩ rfl rfl rfl rfl rfl (by kernel_rfl) Tryz.func3 closed
    (of_decide_eq_true (by kernel_rfl)) (by unfold Func.isWrapper; first | (rw [if_pos (by decide +kernel)]; kernel_rfl) | (rw [if_neg (by decide +kernel)]; exact ⟨rfl, rfl⟩))
    (fun os started H enc _ F => by rw [OpenClaim.pre_eq_preRow]; exact lifted os started H enc F)
end Go.Proofs.YtinebmjpdkjooaaGreatDoor.sheetTells
