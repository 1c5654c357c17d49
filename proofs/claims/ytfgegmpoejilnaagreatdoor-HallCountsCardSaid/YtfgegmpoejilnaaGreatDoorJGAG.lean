/-
  What join answers, by contracts of the two functions that are handed to it: of a cell that is wrong ErrRange, of a Fault a Fault, of what is blank Empty, else what the second one makes of the two numbers.
-/
import Derived.Test.YtfgegmpoejilnaaGreatDoorJGAE
namespace Go.Proofs.YtfgegmpoejilnaaGreatDoor
open Go.ChangeShapes Go.WideShapes Go.ChangeAt Go.RowKit
theorem check_yes {k n:Int} (h:good k n=true) (w:World):Calls Tryz.prog 103 #[.agg #[.int .i64 k,.int .i64 n]] w fun e w'=>e=.returned .nilIface∧Below w.heap.size w w':=by
 have hc:=check_any k n w
 rw [if_pos h] at hc
 exact hc
def Held (s:Nat) (ka na kb nb:Int) (w:World):Prop:=s+4≤w.heap.size∧Two ka na kb nb (s+1+1+1) w
 ∧ w.cell? ⟨s,0,none⟩=some (.int .i64 ka)∧w.cell? ⟨s,1,none⟩=some (.int .i64 na)∧w.cell? ⟨s+1,0,none⟩=some (.int .i64 kb)∧w.cell? ⟨s+1,1,none⟩=some (.int .i64 nb)
 ∧ w.cell? ⟨s+1+1,0,none⟩=some (.int .i64 0)∧w.cell? ⟨s+1+1,1,none⟩=some (.int .i64 0)∧w.frozen? ⟨s+1+1,0,none⟩=false∧w.frozen? ⟨s+1+1,1,none⟩=false
theorem Held.later {s:Nat} {ka na kb nb:Int} {w w':World} (h:Held s ka na kb nb w) (hb:Below w.heap.size w w'):Held s ka na kb nb w':=by
 obtain ⟨hs,⟨t0,t1,t2,t3,t4⟩,h1,h2,h3,h4,h5,h6,h7,h8⟩:=h
 have hz:=hb.size
 refine ⟨by omega,⟨by omega,?_,?_,?_,?_⟩,?_,?_,?_,?_,?_,?_,?_,?_⟩
 ·rw [hb.cell (p:=⟨s+1+1+1,0,none⟩) (by show s+1+1+1<_;omega)];exact t1
 ·rw [hb.cell (p:=⟨s+1+1+1,1,none⟩) (by show s+1+1+1<_;omega)];exact t2
 ·rw [hb.cell (p:=⟨s+1+1+1,2,none⟩) (by show s+1+1+1<_;omega)];exact t3
 ·rw [hb.cell (p:=⟨s+1+1+1,3,none⟩) (by show s+1+1+1<_;omega)];exact t4
 ·rw [hb.cell (p:=⟨s,0,none⟩) (by show s<_;omega)];exact h1
 ·rw [hb.cell (p:=⟨s,1,none⟩) (by show s<_;omega)];exact h2
 ·rw [hb.cell (p:=⟨s+1,0,none⟩) (by show s+1<_;omega)];exact h3
 ·rw [hb.cell (p:=⟨s+1,1,none⟩) (by show s+1<_;omega)];exact h4
 ·rw [hb.cell (p:=⟨s+1+1,0,none⟩) (by show s+1+1<_;omega)];exact h5
 ·rw [hb.cell (p:=⟨s+1+1,1,none⟩) (by show s+1+1<_;omega)];exact h6
 ·rw [hb.frozen (p:=⟨s+1+1,0,none⟩) (by show s+1+1<_;omega)];exact h7
 ·rw [hb.frozen (p:=⟨s+1+1,1,none⟩) (by show s+1+1<_;omega)];exact h8
theorem Held.first (ka na kb nb:Int) (w:World):Held w.heap.size ka na kb nb ((((w.alloc (Obj.cells #[.int .i64 ka,.int .i64 na] 54)).alloc (Obj.cells #[.int .i64 kb,.int .i64 nb] 54)).alloc (Obj.cells #[.int .i64 0,.int .i64 0] 54)).alloc (Obj.cells #[.int .i64 ka,.int .i64 na,.int .i64 kb,.int .i64 nb] 54)):=by
 refine ⟨by simp,⟨by simp,?_,?_,?_,?_⟩,?_,?_,?_,?_,?_,?_,?_,?_⟩ <;> simp [go_sem]
theorem Held.alloc {s:Nat} {ka na kb nb:Int} {w:World} (h:Held s ka na kb nb w) (o:Obj):Held s ka na kb nb (w.alloc o):=h.later ((Below.refl _ _).alloc (Nat.le_refl _) _)
theorem join_fault (f1 f2:Value) (ka na kb nb:Int) (w:World) (ha:good ka na=true) (hb0:good kb nb=true) (hfa:((fun k:Int=>k == 2) ka || (fun k:Int=>k == 2) kb)=true) :
  Calls Tryz.prog 159 #[.agg #[.int .i64 ka,.int .i64 na],.agg #[.int .i64 kb,.int .i64 nb],f1,f2] w fun e w'=>e=.returned (.tuple #[.agg #[.int .i64 2,.int .i64 0],.nilIface])∧Below w.heap.size w w':=by
 have hca:=check_yes ha
 have hcb:=check_yes hb0
 clear hb0 ha
 have H0:=Held.first ka na kb nb w
 go_enter Tryz.func159,Tryz.ntmps159
 go_wp2_with fail
 refine wp_loop_rounds 3 ?_
 rw [rounds_succ]
 go_wp2_with fail
 refine (hca _).mono ?_
 rintro e w1 ⟨rfl,hb⟩
 have H1:=(H0.alloc _).later hb
 have hB:Below w.heap.size w w1:=Below.trans (by go_grown) (hb.mono (by simp;omega))
 clear H0 hb
 obtain ⟨hs,⟨t0,t1,t2,t3,t4⟩,h1,h2,h3,h4,h5,h6,h7,h8⟩:=id H1
 go_wp2_with fail
 rw [rounds_succ]
 go_wp2_with fail
 refine (hcb _).mono ?_
 rintro e w2 ⟨rfl,hb⟩
 have H2:=(H1.alloc _).later hb
 have hB2:Below w.heap.size w w2:=Below.trans (by go_grown) (hb.mono (by simp;omega))
 clear H1 hb hs t0 t1 t2 t3 t4 h1 h2 h3 h4 h5 h6 h7 h8 hB
 obtain ⟨hs,⟨t0,t1,t2,t3,t4⟩,h1,h2,h3,h4,h5,h6,h7,h8⟩:=id H2
 go_wp2_with fail
 rw [rounds_succ]
 go_wp2_with fail
 have hany:=contains_any 195 (fun k=>k == 2) fault1_in fault1_any ka na kb nb _ w2 t0 t1 t2 t3 t4
 rw [hfa] at hany
 refine hany.mono ?_
 rintro e w3 ⟨rfl,hb⟩
 have H3:=H2.later hb
 have hB3:Below w.heap.size w w3:=Below.trans hB2 (hb.mono (by omega))
 clear H2 hb hs t0 t1 t2 t3 t4 h1 h2 h3 h4 h5 h6 h7 h8 hB2 hany
 obtain ⟨hs,ht,h1,h2,h3,h4,h5,h6,h7,h8⟩:=id H3
 clear hfa
 go_wp2_with fail
 refine bodyPost_ret (v:=.tuple #[.agg #[.int .i64 2,.int .i64 0],.nilIface]) (by simp [results,Tryz.results159,go_sem,h5,h6]) rfl ⟨rfl,?_⟩
 go_grown
theorem join_blank (fb:Nat) (p:Int→Int→Bool) (he:Enters fb) (hp:Blank fb p) (f2:Value) (ka na kb nb:Int) (w:World) (ha:good ka na=true) (hb0:good kb nb=true) (hfa:((fun k:Int=>k == 2) ka || (fun k:Int=>k == 2) kb)=false) (hpp:p ka kb=true) :
  Calls Tryz.prog 159 #[.agg #[.int .i64 ka,.int .i64 na],.agg #[.int .i64 kb,.int .i64 nb],.func (.func fb) #[] #[],f2] w fun e w'=>e=.returned (.tuple #[.agg #[.int .i64 0,.int .i64 0],.nilIface])∧Below w.heap.size w w':=by
 have HP:Hid (Blank fb p):=hp
 clear hp
 unfold Enters at he
 have hca:=check_yes ha
 have hcb:=check_yes hb0
 clear hb0 ha
 have H0:=Held.first ka na kb nb w
 go_enter Tryz.func159,Tryz.ntmps159
 go_wp2_with fail
 refine wp_loop_rounds 3 ?_
 rw [rounds_succ]
 go_wp2_with fail
 refine (hca _).mono ?_
 rintro e w1 ⟨rfl,hb⟩
 have H1:=(H0.alloc _).later hb
 have hB:Below w.heap.size w w1:=Below.trans (by go_grown) (hb.mono (by simp;omega))
 clear H0 hb
 obtain ⟨hs,⟨t0,t1,t2,t3,t4⟩,h1,h2,h3,h4,h5,h6,h7,h8⟩:=id H1
 go_wp2_with fail
 rw [rounds_succ]
 go_wp2_with fail
 refine (hcb _).mono ?_
 rintro e w2 ⟨rfl,hb⟩
 have H2:=(H1.alloc _).later hb
 have hB2:Below w.heap.size w w2:=Below.trans (by go_grown) (hb.mono (by simp;omega))
 clear H1 hb hs t0 t1 t2 t3 t4 h1 h2 h3 h4 h5 h6 h7 h8 hB
 obtain ⟨hs,⟨t0,t1,t2,t3,t4⟩,h1,h2,h3,h4,h5,h6,h7,h8⟩:=id H2
 go_wp2_with fail
 rw [rounds_succ]
 go_wp2_with fail
 have hany:=contains_any 195 (fun k=>k == 2) fault1_in fault1_any ka na kb nb _ w2 t0 t1 t2 t3 t4
 rw [hfa] at hany
 refine hany.mono ?_
 rintro e w3 ⟨rfl,hb⟩
 have H3:=H2.later hb
 have hB3:Below w.heap.size w w3:=Below.trans hB2 (hb.mono (by omega))
 clear H2 hb hs t0 t1 t2 t3 t4 h1 h2 h3 h4 h5 h6 h7 h8 hB2 hany
 obtain ⟨hs,ht,h1,h2,h3,h4,h5,h6,h7,h8⟩:=id H3
 clear hfa
 go_wp2_with fail
 have hbl:=HP.out ka na kb nb _ w3 ht
 rw [hpp] at hbl
 refine hbl.mono ?_
 rintro e w4 ⟨rfl,hb⟩
 have H4:=H3.later hb
 have hB4:Below w.heap.size w w4:=Below.trans hB3 (hb.mono (by omega))
 clear H3 hb hs ht h1 h2 h3 h4 h5 h6 h7 h8 hB3 hbl
 obtain ⟨hs,ht,h1,h2,h3,h4,h5,h6,h7,h8⟩:=id H4
 go_wp2_with fail
 refine bodyPost_ret (v:=.tuple #[.agg #[.int .i64 0,.int .i64 0],.nilIface]) (by simp [results,Tryz.results159,go_sem,h5,h6]) rfl ⟨rfl,?_⟩
 go_grown
theorem join_made (fb fo:Nat) (p:Int→Int→Bool) (he:Enters fb) (hp:Blank fb p) (heo:Enters fo) (ka na kb nb:Int) (w:World) (ha:good ka na=true) (hb0:good kb nb=true) (r:Int×Int) (ho:Makes fo na nb r) (hfa:((fun k:Int=>k == 2) ka || (fun k:Int=>k == 2) kb)=false) (hpp:p ka kb=false) :
  Calls Tryz.prog 159 #[.agg #[.int .i64 ka,.int .i64 na],.agg #[.int .i64 kb,.int .i64 nb],.func (.func fb) #[] #[],.func (.func fo) #[] #[]] w fun e w'=>e=.returned (.tuple #[.agg #[.int .i64 r.1,.int .i64 r.2],.nilIface])∧Below w.heap.size w w':=by
 have HP:Hid (Blank fb p):=hp
 have HO:Hid (Makes fo na nb r):=ho
 clear hp ho
 unfold Enters at he heo
 have hca:=check_yes ha
 have hcb:=check_yes hb0
 clear hb0 ha
 have H0:=Held.first ka na kb nb w
 go_enter Tryz.func159,Tryz.ntmps159
 go_wp2_with fail
 refine wp_loop_rounds 3 ?_
 rw [rounds_succ]
 go_wp2_with fail
 refine (hca _).mono ?_
 rintro e w1 ⟨rfl,hb⟩
 have H1:=(H0.alloc _).later hb
 have hB:Below w.heap.size w w1:=Below.trans (by go_grown) (hb.mono (by simp;omega))
 clear H0 hb
 obtain ⟨hs,⟨t0,t1,t2,t3,t4⟩,h1,h2,h3,h4,h5,h6,h7,h8⟩:=id H1
 go_wp2_with fail
 rw [rounds_succ]
 go_wp2_with fail
 refine (hcb _).mono ?_
 rintro e w2 ⟨rfl,hb⟩
 have H2:=(H1.alloc _).later hb
 have hB2:Below w.heap.size w w2:=Below.trans (by go_grown) (hb.mono (by simp;omega))
 clear H1 hb hs t0 t1 t2 t3 t4 h1 h2 h3 h4 h5 h6 h7 h8 hB
 obtain ⟨hs,⟨t0,t1,t2,t3,t4⟩,h1,h2,h3,h4,h5,h6,h7,h8⟩:=id H2
 go_wp2_with fail
 rw [rounds_succ]
 go_wp2_with fail
 have hany:=contains_any 195 (fun k=>k == 2) fault1_in fault1_any ka na kb nb _ w2 t0 t1 t2 t3 t4
 rw [hfa] at hany
 refine hany.mono ?_
 rintro e w3 ⟨rfl,hb⟩
 have H3:=H2.later hb
 have hB3:Below w.heap.size w w3:=Below.trans hB2 (hb.mono (by omega))
 clear H2 hb hs t0 t1 t2 t3 t4 h1 h2 h3 h4 h5 h6 h7 h8 hB2 hany
 obtain ⟨hs,ht,h1,h2,h3,h4,h5,h6,h7,h8⟩:=id H3
 clear hfa
 go_wp2_with fail
 have hbl:=HP.out ka na kb nb _ w3 ht
 rw [hpp] at hbl
 refine hbl.mono ?_
 rintro e w4 ⟨rfl,hb⟩
 have H4:=H3.later hb
 have hB4:Below w.heap.size w w4:=Below.trans hB3 (hb.mono (by omega))
 clear H3 hb hs ht h1 h2 h3 h4 h5 h6 h7 h8 hB3 hbl
 obtain ⟨hs,ht,h1,h2,h3,h4,h5,h6,h7,h8⟩:=id H4
 go_wp2_with fail
 refine (HO.out _).mono ?_
 rintro e w5 ⟨rfl,hb⟩
 have H5:=H4.later hb
 have hB5:Below w.heap.size w w5:=Below.trans hB4 (hb.mono (by omega))
 clear H4 hb hs ht h1 h2 h3 h4 h5 h6 h7 h8 hB4
 obtain ⟨hs,ht,h1,h2,h3,h4,h5,h6,h7,h8⟩:=id H5
 go_wp2_with fail
 refine bodyPost_ret (v:=.tuple #[.agg #[.int .i64 r.1,.int .i64 r.2],.nilIface]) (by simp [results,Tryz.results159,go_sem,h5,h6]) rfl ⟨rfl,?_⟩
 go_grown
end Go.Proofs.YtfgegmpoejilnaaGreatDoor
