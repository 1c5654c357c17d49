/-
  The walk of tallylaw1.CellTells, by contracts of what it calls: a text that is a cell, two cells that are right.
-/
import Derived.Test.YtabcpbdgmaeebaaDoorVar
namespace Go.Proofs.YtabcpbdgmaeebaaDoor
open Go.ChangeShapes Go.WideShapes Go.ChangeAt Go.RowKit
set_option linter.unusedVariables false

set_option maxHeartbeats 16000000 in
set_option maxRecDepth 20000 in
theorem tells_o_g (ka na kb nb n : Int) (s : ByteArray) (w : World) (hE : Env w) (hK : Kind0 w) (s0 : ∀ (w : World), Calls Tryd.prog 6 #[.nilIface, .int .i64 0] w fun e w' => e = .returned (.bool true) ∧ Below w.heap.size w w') (s1 : ∀ (w : World), Kind0 w → Calls Tryd.prog 6 #[.iface 42 (.int .i64 1), .int .i64 1] w fun e w' => e = .returned (.bool true) ∧ Below w.heap.size w w') (rca : ∀ (w : World), Calls Tryd.prog 5 #[.agg #[.int .i64 ka, .int .i64 na]] w fun e w' => e = .returned (.int .i64 0) ∧ Below w.heap.size w w') (cka : ∀ (w : World), Calls Tryd.prog 7 #[.agg #[.int .i64 ka, .int .i64 na]] w fun e w' => e = .returned (.nilIface) ∧ Below w.heap.size w w') (ta : ByteArray) (rsh : ∀ (w : World), Calls Tryd.prog 8 #[.agg #[.int .i64 ka, .int .i64 na]] w fun e w' => e = .returned (.string ta) ∧ Below w.heap.size w w') (pra : ∀ (w : World), Env w → Calls Tryd.prog 9 #[.agg #[.int .i64 ka, .int .i64 na]] w fun e w' => e = .returned (.tuple #[.string ta, .nilIface]) ∧ Below w.heap.size w w') (rcb : ∀ (w : World), Calls Tryd.prog 5 #[.agg #[.int .i64 kb, .int .i64 nb]] w fun e w' => e = .returned (.int .i64 0) ∧ Below w.heap.size w w') (kx nx ky ny kz nz kv nv : Int) (rpl : ∀ (w : World), Calls Tryd.prog 10 #[.agg #[.int .i64 ka, .int .i64 na], .agg #[.int .i64 kb, .int .i64 nb], .int .i64 1] w fun e w' => e = .returned (.agg #[.int .i64 kx, .int .i64 nx]) ∧ Below w.heap.size w w') (rmi : ∀ (w : World), Calls Tryd.prog 10 #[.agg #[.int .i64 ka, .int .i64 na], .agg #[.int .i64 kb, .int .i64 nb], .int .i64 (-1)] w fun e w' => e = .returned (.agg #[.int .i64 ky, .int .i64 ny]) ∧ Below w.heap.size w w') (rti : ∀ (w : World), Calls Tryd.prog 11 #[.agg #[.int .i64 ka, .int .i64 na], .agg #[.int .i64 kb, .int .i64 nb]] w fun e w' => e = .returned (.agg #[.int .i64 kz, .int .i64 nz]) ∧ Below w.heap.size w w') (rov : ∀ (w : World), Calls Tryd.prog 12 #[.agg #[.int .i64 ka, .int .i64 na], .agg #[.int .i64 kb, .int .i64 nb]] w fun e w' => e = .returned (.agg #[.int .i64 kv, .int .i64 nv]) ∧ Below w.heap.size w w') (hadd : ∀ (w : World), Calls Tryd.prog 13 #[.agg #[.int .i64 ka, .int .i64 na], .agg #[.int .i64 kb, .int .i64 nb]] w fun e w' => e = .returned (.tuple #[.agg #[.int .i64 kx, .int .i64 nx], .nilIface]) ∧ Below w.heap.size w w') (hsub : ∀ (w : World), Calls Tryd.prog 14 #[.agg #[.int .i64 ka, .int .i64 na], .agg #[.int .i64 kb, .int .i64 nb]] w fun e w' => e = .returned (.tuple #[.agg #[.int .i64 ky, .int .i64 ny], .nilIface]) ∧ Below w.heap.size w w') (hmul : ∀ (w : World), Calls Tryd.prog 15 #[.agg #[.int .i64 ka, .int .i64 na], .agg #[.int .i64 kb, .int .i64 nb]] w fun e w' => e = .returned (.tuple #[.agg #[.int .i64 kz, .int .i64 nz], .nilIface]) ∧ Below w.heap.size w w') (hdiv : ∀ (w : World), Calls Tryd.prog 16 #[.agg #[.int .i64 ka, .int .i64 na], .agg #[.int .i64 kb, .int .i64 nb]] w fun e w' => e = .returned (.tuple #[.agg #[.int .i64 kv, .int .i64 nv], .nilIface]) ∧ Below w.heap.size w w') (kc nc : Int) (rrd : ∀ (w : World), Calls Tryd.prog 17 #[.string s] w fun e w' => e = .returned (.tuple #[.agg #[.int .i64 kc, .int .i64 nc], .int .i64 0]) ∧ Below w.heap.size w w') (prs : ∀ (w : World), Env w → Calls Tryd.prog 18 #[.string s] w fun e w' => e = .returned (.tuple #[.agg #[.int .i64 kc, .int .i64 nc], .nilIface]) ∧ Below w.heap.size w w') (ko no : Int) (hof : ∀ (w : World), Calls Tryd.prog 19 #[.int .i64 n] w fun e w' => e = .returned (.agg #[.int .i64 ko, .int .i64 no]) ∧ Below w.heap.size w w') (rof : ∀ (w : World), Calls Tryd.prog 20 #[.int .i64 n] w fun e w' => e = .returned (.agg #[.int .i64 ko, .int .i64 no]) ∧ Below w.heap.size w w') : Calls Tryd.prog 3 #[.agg #[.int .i64 ka, .int .i64 na], .agg #[.int .i64 kb, .int .i64 nb], .int .i64 n, .string s] w fun e w' => e = .returned (.bool true) ∧ Below w.heap.size w w' := by
  go_enter Tryd.func3, Tryd.ntmps3
  go_wp2_with fail
  obtain ⟨w0, hw0⟩ : ∃ w0, (w.alloc (.cells #[.int .i64 ka, .int .i64 na] 23)).alloc (.cells #[.int .i64 kb, .int .i64 nb] 23) = w0 := ⟨_, rfl⟩
  have hB0 : Below w.heap.size w w0 := by subst hw0; go_grown
  have ha0 : Var w.heap.size ka na w0 := by subst hw0; exact (Var.new ka na w _).later (by go_grown)
  have hb0 : Var (w.heap.size + 1) kb nb w0 := by subst hw0; have h := Var.new kb nb (w.alloc (.cells #[.int .i64 ka, .int .i64 na] 23)) 23; simp only [World.size_alloc] at h; exact h
  rw [hw0]
  clear hw0
  have hs0 := hB0.size
  have fa0 := ha0.1.1
  have fa1 := ha0.1.2.1
  have fa2 := ha0.1.2.2
  have fb0 := hb0.1.1
  have fb1 := hb0.1.2.1
  have fb2 := hb0.1.2.2
  go_wp2_with fail
  refine (rca _).mono ?_
  rintro e w1 ⟨rfl, hb⟩
  have hB1 : Below w.heap.size w w1 := Below.trans (by go_grown) (hb.mono (by first | omega | (simp; omega)))
  have ha1 := Var.next ha0 (by go_grown) hb
  have hb1 := Var.next hb0 (by go_grown) hb
  have hs1 := hB1.size
  clear hb ha0 hb0 hB0 hs0 fa0 fa1 fa2 fb0 fb1 fb2
  have fa0 := ha1.1.1
  have fa1 := ha1.1.2.1
  have fa2 := ha1.1.2.2
  have fb0 := hb1.1.1
  have fb1 := hb1.1.2.1
  have fb2 := hb1.1.2.2
  go_wp2_with fail
  refine (cka _).mono ?_
  rintro e w2 ⟨rfl, hb⟩
  have hB2 : Below w.heap.size w w2 := Below.trans (by go_grown) (hb.mono (by first | omega | (simp; omega)))
  have ha2 := Var.next ha1 (by go_grown) hb
  have hb2 := Var.next hb1 (by go_grown) hb
  have hs2 := hB2.size
  clear hb ha1 hb1 hB1 hs1 fa0 fa1 fa2 fb0 fb1 fb2
  have fa0 := ha2.1.1
  have fa1 := ha2.1.2.1
  have fa2 := ha2.1.2.2
  have fb0 := hb2.1.1
  have fb1 := hb2.1.2.1
  have fb2 := hb2.1.2.2
  go_wp2_with fail
  refine (s0 _).mono ?_
  rintro e w3 ⟨rfl, hb⟩
  have hB3 : Below w.heap.size w w3 := Below.trans (by go_grown) (hb.mono (by first | omega | (simp; omega)))
  have ha3 := Var.next ha2 (by go_grown) hb
  have hb3 := Var.next hb2 (by go_grown) hb
  have hs3 := hB3.size
  clear hb ha2 hb2 hB2 hs2 fa0 fa1 fa2 fb0 fb1 fb2
  have fa0 := ha3.1.1
  have fa1 := ha3.1.2.1
  have fa2 := ha3.1.2.2
  have fb0 := hb3.1.1
  have fb1 := hb3.1.2.1
  have fb2 := hb3.1.2.2
  go_wp2_with fail
  refine (rsh _).mono ?_
  rintro e w4 ⟨rfl, hb⟩
  have hB4 : Below w.heap.size w w4 := Below.trans (by go_grown) (hb.mono (by first | omega | (simp; omega)))
  have ha4 := Var.next ha3 (by go_grown) hb
  have hb4 := Var.next hb3 (by go_grown) hb
  have hs4 := hB4.size
  clear hb ha3 hb3 hB3 hs3 fa0 fa1 fa2 fb0 fb1 fb2
  have fa0 := ha4.1.1
  have fa1 := ha4.1.2.1
  have fa2 := ha4.1.2.2
  have fb0 := hb4.1.1
  have fb1 := hb4.1.2.1
  have fb2 := hb4.1.2.2
  go_wp2_with fail
  refine (pra _ (hE.later (by go_grown))).mono ?_
  rintro e w5 ⟨rfl, hb⟩
  have hB5 : Below w.heap.size w w5 := Below.trans (by go_grown) (hb.mono (by first | omega | (simp; omega)))
  have ha5 := Var.next ha4 (by go_grown) hb
  have hb5 := Var.next hb4 (by go_grown) hb
  have hs5 := hB5.size
  clear hb ha4 hb4 hB4 hs4 fa0 fa1 fa2 fb0 fb1 fb2
  have fa0 := ha5.1.1
  have fa1 := ha5.1.2.1
  have fa2 := ha5.1.2.2
  have fb0 := hb5.1.1
  have fb1 := hb5.1.2.1
  have fb2 := hb5.1.2.2
  go_wp2_with fail
  refine (s0 _).mono ?_
  rintro e w6 ⟨rfl, hb⟩
  have hB6 : Below w.heap.size w w6 := Below.trans (by go_grown) (hb.mono (by first | omega | (simp; omega)))
  have ha6 := Var.next ha5 (by go_grown) hb
  have hb6 := Var.next hb5 (by go_grown) hb
  have hs6 := hB6.size
  clear hb ha5 hb5 hB5 hs5 fa0 fa1 fa2 fb0 fb1 fb2
  have fa0 := ha6.1.1
  have fa1 := ha6.1.2.1
  have fa2 := ha6.1.2.2
  have fb0 := hb6.1.1
  have fb1 := hb6.1.2.1
  have fb2 := hb6.1.2.2
  go_wp2_with fail
  refine (rcb _).mono ?_
  rintro e w7 ⟨rfl, hb⟩
  have hB7 : Below w.heap.size w w7 := Below.trans (by go_grown) (hb.mono (by first | omega | (simp; omega)))
  have ha7 := Var.next ha6 (by go_grown) hb
  have hb7 := Var.next hb6 (by go_grown) hb
  have hs7 := hB7.size
  clear hb ha6 hb6 hB6 hs6 fa0 fa1 fa2 fb0 fb1 fb2
  have fa0 := ha7.1.1
  have fa1 := ha7.1.2.1
  have fa2 := ha7.1.2.2
  have fb0 := hb7.1.1
  have fb1 := hb7.1.2.1
  have fb2 := hb7.1.2.2
  have ga1 := four_cell fa1 fa0
  have ga2 := four_cell fa2 fa0
  have gb1 := four_cell fb1 fb0
  have gb2 := four_cell fb2 fb0
  go_wp2_with fail
  clear ga1 ga2 gb1 gb2
  obtain ⟨w8, hw8⟩ : ∃ w8, (((w7.alloc (.cells #[.int .i64 0, .int .i64 0] 23)).alloc (.cells #[.int .i64 0, .int .i64 0] 23)).alloc (.cells #[.int .i64 0, .int .i64 0] 23)).alloc (.cells #[.int .i64 0, .int .i64 0] 23) = w8 := ⟨_, rfl⟩
  obtain ⟨hp8, hq8, hr8, ht8, hb⟩ := four w7 23
  rw [hw8] at hp8 hq8 hr8 ht8 hb ⊢
  clear hw8
  have hB8 : Below w.heap.size w w8 := Below.next hB7 hb
  have ha8 := ha7.later hb
  have hb8 := hb7.later hb
  have hs8 := hB8.size
  have hdd : w.heap.size + 1 < w7.heap.size := fb0
  clear hb ha7 hb7 hB7 hs7 fa0 fa1 fa2 fb0 fb1 fb2
  have fa0 := ha8.1.1
  have fa1 := ha8.1.2.1
  have fa2 := ha8.1.2.2
  have fb0 := hb8.1.1
  have fb1 := hb8.1.2.1
  have fb2 := hb8.1.2.2
  have fp0 := hp8.1.1
  have fp1 := hp8.1.2.1
  have fp2 := hp8.1.2.2
  have fp3 := hp8.2.1
  have fp4 := hp8.2.2
  have fq0 := hq8.1.1
  have fq1 := hq8.1.2.1
  have fq2 := hq8.1.2.2
  have fq3 := hq8.2.1
  have fq4 := hq8.2.2
  have fr0 := hr8.1.1
  have fr1 := hr8.1.2.1
  have fr2 := hr8.1.2.2
  have fr3 := hr8.2.1
  have fr4 := hr8.2.2
  have ft0 := ht8.1.1
  have ft1 := ht8.1.2.1
  have ft2 := ht8.1.2.2
  have ft3 := ht8.2.1
  have ft4 := ht8.2.2
  refine (rpl _).mono ?_
  rintro e w9 ⟨rfl, hb⟩
  have hB9 : Below w.heap.size w w9 := Below.trans (by go_grown) (hb.mono (by first | omega | (simp; omega)))
  have ha9 := Var.next ha8 (by go_grown) hb
  have hb9 := Var.next hb8 (by go_grown) hb
  have hp9 := Var.next hp8 (by go_grown) hb
  have hq9 := Var.next hq8 (by go_grown) hb
  have hr9 := Var.next hr8 (by go_grown) hb
  have ht9 := Var.next ht8 (by go_grown) hb
  have hs9 := hB9.size
  clear hb ha8 hb8 hp8 hq8 hr8 ht8 hB8 hs8 fa0 fa1 fa2 fb0 fb1 fb2 fp0 fp1 fp2 fp3 fp4 fq0 fq1 fq2 fq3 fq4 fr0 fr1 fr2 fr3 fr4 ft0 ft1 ft2 ft3 ft4
  have fa0 := ha9.1.1
  have fa1 := ha9.1.2.1
  have fa2 := ha9.1.2.2
  have fb0 := hb9.1.1
  have fb1 := hb9.1.2.1
  have fb2 := hb9.1.2.2
  have fp0 := hp9.1.1
  have fp1 := hp9.1.2.1
  have fp2 := hp9.1.2.2
  have fp3 := hp9.2.1
  have fp4 := hp9.2.2
  have fq0 := hq9.1.1
  have fq1 := hq9.1.2.1
  have fq2 := hq9.1.2.2
  have fq3 := hq9.2.1
  have fq4 := hq9.2.2
  have fr0 := hr9.1.1
  have fr1 := hr9.1.2.1
  have fr2 := hr9.1.2.2
  have fr3 := hr9.2.1
  have fr4 := hr9.2.2
  have ft0 := ht9.1.1
  have ft1 := ht9.1.2.1
  have ft2 := ht9.1.2.2
  have ft3 := ht9.2.1
  have ft4 := ht9.2.2
  go_wp2_with fail
  obtain ⟨w10, hw10⟩ : ∃ w10, (w9.setCell ⟨w7.heap.size, 0, none⟩ (.int .i64 kx)).setCell ⟨w7.heap.size, 1, none⟩ (.int .i64 nx) = w10 := ⟨_, rfl⟩
  have ha10 := (Var.other (t := w7.heap.size) (k' := kx) (n' := nx) ha9 (by omega)); rw [hw10] at ha10
  have hb10 := (Var.other (t := w7.heap.size) (k' := kx) (n' := nx) hb9 (by omega)); rw [hw10] at hb10
  have hp10 : Var w7.heap.size kx nx w10 := by rw [← hw10]; exact Var.set hp9
  have hq10 := (Var.other (t := w7.heap.size) (k' := kx) (n' := nx) hq9 (by omega)); rw [hw10] at hq10
  have hr10 := (Var.other (t := w7.heap.size) (k' := kx) (n' := nx) hr9 (by omega)); rw [hw10] at hr10
  have ht10 := (Var.other (t := w7.heap.size) (k' := kx) (n' := nx) ht9 (by omega)); rw [hw10] at ht10
  have hB10 : Below w.heap.size w w10 := by rw [← hw10]; go_grown
  rw [hw10]
  clear hw10
  have hs10 := hB10.size
  clear ha9 hb9 hp9 hq9 hr9 ht9 hB9 hs9 fa0 fa1 fa2 fb0 fb1 fb2 fp0 fp1 fp2 fp3 fp4 fq0 fq1 fq2 fq3 fq4 fr0 fr1 fr2 fr3 fr4 ft0 ft1 ft2 ft3 ft4
  have fa0 := ha10.1.1
  have fa1 := ha10.1.2.1
  have fa2 := ha10.1.2.2
  have fb0 := hb10.1.1
  have fb1 := hb10.1.2.1
  have fb2 := hb10.1.2.2
  have fp0 := hp10.1.1
  have fp1 := hp10.1.2.1
  have fp2 := hp10.1.2.2
  have fp3 := hp10.2.1
  have fp4 := hp10.2.2
  have fq0 := hq10.1.1
  have fq1 := hq10.1.2.1
  have fq2 := hq10.1.2.2
  have fq3 := hq10.2.1
  have fq4 := hq10.2.2
  have fr0 := hr10.1.1
  have fr1 := hr10.1.2.1
  have fr2 := hr10.1.2.2
  have fr3 := hr10.2.1
  have fr4 := hr10.2.2
  have ft0 := ht10.1.1
  have ft1 := ht10.1.2.1
  have ft2 := ht10.1.2.2
  have ft3 := ht10.2.1
  have ft4 := ht10.2.2
  refine (rmi _).mono ?_
  rintro e w11 ⟨rfl, hb⟩
  have hB11 : Below w.heap.size w w11 := Below.trans (by go_grown) (hb.mono (by first | omega | (simp; omega)))
  have ha11 := Var.next ha10 (by go_grown) hb
  have hb11 := Var.next hb10 (by go_grown) hb
  have hp11 := Var.next hp10 (by go_grown) hb
  have hq11 := Var.next hq10 (by go_grown) hb
  have hr11 := Var.next hr10 (by go_grown) hb
  have ht11 := Var.next ht10 (by go_grown) hb
  have hs11 := hB11.size
  clear hb ha10 hb10 hp10 hq10 hr10 ht10 hB10 hs10 fa0 fa1 fa2 fb0 fb1 fb2 fp0 fp1 fp2 fp3 fp4 fq0 fq1 fq2 fq3 fq4 fr0 fr1 fr2 fr3 fr4 ft0 ft1 ft2 ft3 ft4
  have fa0 := ha11.1.1
  have fa1 := ha11.1.2.1
  have fa2 := ha11.1.2.2
  have fb0 := hb11.1.1
  have fb1 := hb11.1.2.1
  have fb2 := hb11.1.2.2
  have fp0 := hp11.1.1
  have fp1 := hp11.1.2.1
  have fp2 := hp11.1.2.2
  have fp3 := hp11.2.1
  have fp4 := hp11.2.2
  have fq0 := hq11.1.1
  have fq1 := hq11.1.2.1
  have fq2 := hq11.1.2.2
  have fq3 := hq11.2.1
  have fq4 := hq11.2.2
  have fr0 := hr11.1.1
  have fr1 := hr11.1.2.1
  have fr2 := hr11.1.2.2
  have fr3 := hr11.2.1
  have fr4 := hr11.2.2
  have ft0 := ht11.1.1
  have ft1 := ht11.1.2.1
  have ft2 := ht11.1.2.2
  have ft3 := ht11.2.1
  have ft4 := ht11.2.2
  go_wp2_with fail
  obtain ⟨w12, hw12⟩ : ∃ w12, (w11.setCell ⟨(w7.heap.size + 1), 0, none⟩ (.int .i64 ky)).setCell ⟨(w7.heap.size + 1), 1, none⟩ (.int .i64 ny) = w12 := ⟨_, rfl⟩
  have ha12 := (Var.other (t := (w7.heap.size + 1)) (k' := ky) (n' := ny) ha11 (by omega)); rw [hw12] at ha12
  have hb12 := (Var.other (t := (w7.heap.size + 1)) (k' := ky) (n' := ny) hb11 (by omega)); rw [hw12] at hb12
  have hp12 := (Var.other (t := (w7.heap.size + 1)) (k' := ky) (n' := ny) hp11 (by omega)); rw [hw12] at hp12
  have hq12 : Var (w7.heap.size + 1) ky ny w12 := by rw [← hw12]; exact Var.set hq11
  have hr12 := (Var.other (t := (w7.heap.size + 1)) (k' := ky) (n' := ny) hr11 (by omega)); rw [hw12] at hr12
  have ht12 := (Var.other (t := (w7.heap.size + 1)) (k' := ky) (n' := ny) ht11 (by omega)); rw [hw12] at ht12
  have hB12 : Below w.heap.size w w12 := by rw [← hw12]; go_grown
  rw [hw12]
  clear hw12
  have hs12 := hB12.size
  clear ha11 hb11 hp11 hq11 hr11 ht11 hB11 hs11 fa0 fa1 fa2 fb0 fb1 fb2 fp0 fp1 fp2 fp3 fp4 fq0 fq1 fq2 fq3 fq4 fr0 fr1 fr2 fr3 fr4 ft0 ft1 ft2 ft3 ft4
  have fa0 := ha12.1.1
  have fa1 := ha12.1.2.1
  have fa2 := ha12.1.2.2
  have fb0 := hb12.1.1
  have fb1 := hb12.1.2.1
  have fb2 := hb12.1.2.2
  have fp0 := hp12.1.1
  have fp1 := hp12.1.2.1
  have fp2 := hp12.1.2.2
  have fp3 := hp12.2.1
  have fp4 := hp12.2.2
  have fq0 := hq12.1.1
  have fq1 := hq12.1.2.1
  have fq2 := hq12.1.2.2
  have fq3 := hq12.2.1
  have fq4 := hq12.2.2
  have fr0 := hr12.1.1
  have fr1 := hr12.1.2.1
  have fr2 := hr12.1.2.2
  have fr3 := hr12.2.1
  have fr4 := hr12.2.2
  have ft0 := ht12.1.1
  have ft1 := ht12.1.2.1
  have ft2 := ht12.1.2.2
  have ft3 := ht12.2.1
  have ft4 := ht12.2.2
  refine (rti _).mono ?_
  rintro e w13 ⟨rfl, hb⟩
  have hB13 : Below w.heap.size w w13 := Below.trans (by go_grown) (hb.mono (by first | omega | (simp; omega)))
  have ha13 := Var.next ha12 (by go_grown) hb
  have hb13 := Var.next hb12 (by go_grown) hb
  have hp13 := Var.next hp12 (by go_grown) hb
  have hq13 := Var.next hq12 (by go_grown) hb
  have hr13 := Var.next hr12 (by go_grown) hb
  have ht13 := Var.next ht12 (by go_grown) hb
  have hs13 := hB13.size
  clear hb ha12 hb12 hp12 hq12 hr12 ht12 hB12 hs12 fa0 fa1 fa2 fb0 fb1 fb2 fp0 fp1 fp2 fp3 fp4 fq0 fq1 fq2 fq3 fq4 fr0 fr1 fr2 fr3 fr4 ft0 ft1 ft2 ft3 ft4
  have fa0 := ha13.1.1
  have fa1 := ha13.1.2.1
  have fa2 := ha13.1.2.2
  have fb0 := hb13.1.1
  have fb1 := hb13.1.2.1
  have fb2 := hb13.1.2.2
  have fp0 := hp13.1.1
  have fp1 := hp13.1.2.1
  have fp2 := hp13.1.2.2
  have fp3 := hp13.2.1
  have fp4 := hp13.2.2
  have fq0 := hq13.1.1
  have fq1 := hq13.1.2.1
  have fq2 := hq13.1.2.2
  have fq3 := hq13.2.1
  have fq4 := hq13.2.2
  have fr0 := hr13.1.1
  have fr1 := hr13.1.2.1
  have fr2 := hr13.1.2.2
  have fr3 := hr13.2.1
  have fr4 := hr13.2.2
  have ft0 := ht13.1.1
  have ft1 := ht13.1.2.1
  have ft2 := ht13.1.2.2
  have ft3 := ht13.2.1
  have ft4 := ht13.2.2
  go_wp2_with fail
  obtain ⟨w14, hw14⟩ : ∃ w14, (w13.setCell ⟨(w7.heap.size + 1 + 1), 0, none⟩ (.int .i64 kz)).setCell ⟨(w7.heap.size + 1 + 1), 1, none⟩ (.int .i64 nz) = w14 := ⟨_, rfl⟩
  have ha14 := (Var.other (t := (w7.heap.size + 1 + 1)) (k' := kz) (n' := nz) ha13 (by omega)); rw [hw14] at ha14
  have hb14 := (Var.other (t := (w7.heap.size + 1 + 1)) (k' := kz) (n' := nz) hb13 (by omega)); rw [hw14] at hb14
  have hp14 := (Var.other (t := (w7.heap.size + 1 + 1)) (k' := kz) (n' := nz) hp13 (by omega)); rw [hw14] at hp14
  have hq14 := (Var.other (t := (w7.heap.size + 1 + 1)) (k' := kz) (n' := nz) hq13 (by omega)); rw [hw14] at hq14
  have hr14 : Var (w7.heap.size + 1 + 1) kz nz w14 := by rw [← hw14]; exact Var.set hr13
  have ht14 := (Var.other (t := (w7.heap.size + 1 + 1)) (k' := kz) (n' := nz) ht13 (by omega)); rw [hw14] at ht14
  have hB14 : Below w.heap.size w w14 := by rw [← hw14]; go_grown
  rw [hw14]
  clear hw14
  have hs14 := hB14.size
  clear ha13 hb13 hp13 hq13 hr13 ht13 hB13 hs13 fa0 fa1 fa2 fb0 fb1 fb2 fp0 fp1 fp2 fp3 fp4 fq0 fq1 fq2 fq3 fq4 fr0 fr1 fr2 fr3 fr4 ft0 ft1 ft2 ft3 ft4
  have fa0 := ha14.1.1
  have fa1 := ha14.1.2.1
  have fa2 := ha14.1.2.2
  have fb0 := hb14.1.1
  have fb1 := hb14.1.2.1
  have fb2 := hb14.1.2.2
  have fp0 := hp14.1.1
  have fp1 := hp14.1.2.1
  have fp2 := hp14.1.2.2
  have fp3 := hp14.2.1
  have fp4 := hp14.2.2
  have fq0 := hq14.1.1
  have fq1 := hq14.1.2.1
  have fq2 := hq14.1.2.2
  have fq3 := hq14.2.1
  have fq4 := hq14.2.2
  have fr0 := hr14.1.1
  have fr1 := hr14.1.2.1
  have fr2 := hr14.1.2.2
  have fr3 := hr14.2.1
  have fr4 := hr14.2.2
  have ft0 := ht14.1.1
  have ft1 := ht14.1.2.1
  have ft2 := ht14.1.2.2
  have ft3 := ht14.2.1
  have ft4 := ht14.2.2
  refine (rov _).mono ?_
  rintro e w15 ⟨rfl, hb⟩
  have hB15 : Below w.heap.size w w15 := Below.trans (by go_grown) (hb.mono (by first | omega | (simp; omega)))
  have ha15 := Var.next ha14 (by go_grown) hb
  have hb15 := Var.next hb14 (by go_grown) hb
  have hp15 := Var.next hp14 (by go_grown) hb
  have hq15 := Var.next hq14 (by go_grown) hb
  have hr15 := Var.next hr14 (by go_grown) hb
  have ht15 := Var.next ht14 (by go_grown) hb
  have hs15 := hB15.size
  clear hb ha14 hb14 hp14 hq14 hr14 ht14 hB14 hs14 fa0 fa1 fa2 fb0 fb1 fb2 fp0 fp1 fp2 fp3 fp4 fq0 fq1 fq2 fq3 fq4 fr0 fr1 fr2 fr3 fr4 ft0 ft1 ft2 ft3 ft4
  have fa0 := ha15.1.1
  have fa1 := ha15.1.2.1
  have fa2 := ha15.1.2.2
  have fb0 := hb15.1.1
  have fb1 := hb15.1.2.1
  have fb2 := hb15.1.2.2
  have fp0 := hp15.1.1
  have fp1 := hp15.1.2.1
  have fp2 := hp15.1.2.2
  have fp3 := hp15.2.1
  have fp4 := hp15.2.2
  have fq0 := hq15.1.1
  have fq1 := hq15.1.2.1
  have fq2 := hq15.1.2.2
  have fq3 := hq15.2.1
  have fq4 := hq15.2.2
  have fr0 := hr15.1.1
  have fr1 := hr15.1.2.1
  have fr2 := hr15.1.2.2
  have fr3 := hr15.2.1
  have fr4 := hr15.2.2
  have ft0 := ht15.1.1
  have ft1 := ht15.1.2.1
  have ft2 := ht15.1.2.2
  have ft3 := ht15.2.1
  have ft4 := ht15.2.2
  go_wp2_with fail
  obtain ⟨w16, hw16⟩ : ∃ w16, (w15.setCell ⟨(w7.heap.size + 1 + 1 + 1), 0, none⟩ (.int .i64 kv)).setCell ⟨(w7.heap.size + 1 + 1 + 1), 1, none⟩ (.int .i64 nv) = w16 := ⟨_, rfl⟩
  have ha16 := (Var.other (t := (w7.heap.size + 1 + 1 + 1)) (k' := kv) (n' := nv) ha15 (by omega)); rw [hw16] at ha16
  have hb16 := (Var.other (t := (w7.heap.size + 1 + 1 + 1)) (k' := kv) (n' := nv) hb15 (by omega)); rw [hw16] at hb16
  have hp16 := (Var.other (t := (w7.heap.size + 1 + 1 + 1)) (k' := kv) (n' := nv) hp15 (by omega)); rw [hw16] at hp16
  have hq16 := (Var.other (t := (w7.heap.size + 1 + 1 + 1)) (k' := kv) (n' := nv) hq15 (by omega)); rw [hw16] at hq16
  have hr16 := (Var.other (t := (w7.heap.size + 1 + 1 + 1)) (k' := kv) (n' := nv) hr15 (by omega)); rw [hw16] at hr16
  have ht16 : Var (w7.heap.size + 1 + 1 + 1) kv nv w16 := by rw [← hw16]; exact Var.set ht15
  have hB16 : Below w.heap.size w w16 := by rw [← hw16]; go_grown
  rw [hw16]
  clear hw16
  have hs16 := hB16.size
  clear ha15 hb15 hp15 hq15 hr15 ht15 hB15 hs15 fa0 fa1 fa2 fb0 fb1 fb2 fp0 fp1 fp2 fp3 fp4 fq0 fq1 fq2 fq3 fq4 fr0 fr1 fr2 fr3 fr4 ft0 ft1 ft2 ft3 ft4
  have fa0 := ha16.1.1
  have fa1 := ha16.1.2.1
  have fa2 := ha16.1.2.2
  have fb0 := hb16.1.1
  have fb1 := hb16.1.2.1
  have fb2 := hb16.1.2.2
  have fp0 := hp16.1.1
  have fp1 := hp16.1.2.1
  have fp2 := hp16.1.2.2
  have fp3 := hp16.2.1
  have fp4 := hp16.2.2
  have fq0 := hq16.1.1
  have fq1 := hq16.1.2.1
  have fq2 := hq16.1.2.2
  have fq3 := hq16.2.1
  have fq4 := hq16.2.2
  have fr0 := hr16.1.1
  have fr1 := hr16.1.2.1
  have fr2 := hr16.1.2.2
  have fr3 := hr16.2.1
  have fr4 := hr16.2.2
  have ft0 := ht16.1.1
  have ft1 := ht16.1.2.1
  have ft2 := ht16.1.2.2
  have ft3 := ht16.2.1
  have ft4 := ht16.2.2
  refine (hadd _).mono ?_
  rintro e w17 ⟨rfl, hb⟩
  have hB17 : Below w.heap.size w w17 := Below.trans (by go_grown) (hb.mono (by first | omega | (simp; omega)))
  have ha17 := Var.next ha16 (by go_grown) hb
  have hb17 := Var.next hb16 (by go_grown) hb
  have hp17 := Var.next hp16 (by go_grown) hb
  have hq17 := Var.next hq16 (by go_grown) hb
  have hr17 := Var.next hr16 (by go_grown) hb
  have ht17 := Var.next ht16 (by go_grown) hb
  have hs17 := hB17.size
  clear hb ha16 hb16 hp16 hq16 hr16 ht16 hB16 hs16 fa0 fa1 fa2 fb0 fb1 fb2 fp0 fp1 fp2 fp3 fp4 fq0 fq1 fq2 fq3 fq4 fr0 fr1 fr2 fr3 fr4 ft0 ft1 ft2 ft3 ft4
  have fa0 := ha17.1.1
  have fa1 := ha17.1.2.1
  have fa2 := ha17.1.2.2
  have fb0 := hb17.1.1
  have fb1 := hb17.1.2.1
  have fb2 := hb17.1.2.2
  have fp0 := hp17.1.1
  have fp1 := hp17.1.2.1
  have fp2 := hp17.1.2.2
  have fp3 := hp17.2.1
  have fp4 := hp17.2.2
  have fq0 := hq17.1.1
  have fq1 := hq17.1.2.1
  have fq2 := hq17.1.2.2
  have fq3 := hq17.2.1
  have fq4 := hq17.2.2
  have fr0 := hr17.1.1
  have fr1 := hr17.1.2.1
  have fr2 := hr17.1.2.2
  have fr3 := hr17.2.1
  have fr4 := hr17.2.2
  have ft0 := ht17.1.1
  have ft1 := ht17.1.2.1
  have ft2 := ht17.1.2.2
  have ft3 := ht17.2.1
  have ft4 := ht17.2.2
  go_wp2_with fail
  refine (s0 _).mono ?_
  rintro e w18 ⟨rfl, hb⟩
  have hB18 : Below w.heap.size w w18 := Below.trans (by go_grown) (hb.mono (by first | omega | (simp; omega)))
  have ha18 := Var.next ha17 (by go_grown) hb
  have hb18 := Var.next hb17 (by go_grown) hb
  have hp18 := Var.next hp17 (by go_grown) hb
  have hq18 := Var.next hq17 (by go_grown) hb
  have hr18 := Var.next hr17 (by go_grown) hb
  have ht18 := Var.next ht17 (by go_grown) hb
  have hx18 := (Var.new kx nx w17 23).later hb
  have hs18 := hB18.size
  clear hb ha17 hb17 hp17 hq17 hr17 ht17 hB17 hs17 fa0 fa1 fa2 fb0 fb1 fb2 fp0 fp1 fp2 fp3 fp4 fq0 fq1 fq2 fq3 fq4 fr0 fr1 fr2 fr3 fr4 ft0 ft1 ft2 ft3 ft4
  have fa0 := ha18.1.1
  have fa1 := ha18.1.2.1
  have fa2 := ha18.1.2.2
  have fb0 := hb18.1.1
  have fb1 := hb18.1.2.1
  have fb2 := hb18.1.2.2
  have fp0 := hp18.1.1
  have fp1 := hp18.1.2.1
  have fp2 := hp18.1.2.2
  have fp3 := hp18.2.1
  have fp4 := hp18.2.2
  have fq0 := hq18.1.1
  have fq1 := hq18.1.2.1
  have fq2 := hq18.1.2.2
  have fq3 := hq18.2.1
  have fq4 := hq18.2.2
  have fr0 := hr18.1.1
  have fr1 := hr18.1.2.1
  have fr2 := hr18.1.2.2
  have fr3 := hr18.2.1
  have fr4 := hr18.2.2
  have ft0 := ht18.1.1
  have ft1 := ht18.1.2.1
  have ft2 := ht18.1.2.2
  have ft3 := ht18.2.1
  have ft4 := ht18.2.2
  have fx0 := hx18.1.1
  have fx1 := hx18.1.2.1
  have fx2 := hx18.1.2.2
  go_wp2_with fail
  refine (hsub _).mono ?_
  rintro e w19 ⟨rfl, hb⟩
  have hB19 : Below w.heap.size w w19 := Below.trans (by go_grown) (hb.mono (by first | omega | (simp; omega)))
  have ha19 := Var.next ha18 (by go_grown) hb
  have hb19 := Var.next hb18 (by go_grown) hb
  have hp19 := Var.next hp18 (by go_grown) hb
  have hq19 := Var.next hq18 (by go_grown) hb
  have hr19 := Var.next hr18 (by go_grown) hb
  have ht19 := Var.next ht18 (by go_grown) hb
  have hx19 := Var.next hx18 (by go_grown) hb
  have hs19 := hB19.size
  clear hb ha18 hb18 hp18 hq18 hr18 ht18 hx18 hB18 hs18 fa0 fa1 fa2 fb0 fb1 fb2 fp0 fp1 fp2 fp3 fp4 fq0 fq1 fq2 fq3 fq4 fr0 fr1 fr2 fr3 fr4 ft0 ft1 ft2 ft3 ft4 fx0 fx1 fx2
  have fa0 := ha19.1.1
  have fa1 := ha19.1.2.1
  have fa2 := ha19.1.2.2
  have fb0 := hb19.1.1
  have fb1 := hb19.1.2.1
  have fb2 := hb19.1.2.2
  have fp0 := hp19.1.1
  have fp1 := hp19.1.2.1
  have fp2 := hp19.1.2.2
  have fp3 := hp19.2.1
  have fp4 := hp19.2.2
  have fq0 := hq19.1.1
  have fq1 := hq19.1.2.1
  have fq2 := hq19.1.2.2
  have fq3 := hq19.2.1
  have fq4 := hq19.2.2
  have fr0 := hr19.1.1
  have fr1 := hr19.1.2.1
  have fr2 := hr19.1.2.2
  have fr3 := hr19.2.1
  have fr4 := hr19.2.2
  have ft0 := ht19.1.1
  have ft1 := ht19.1.2.1
  have ft2 := ht19.1.2.2
  have ft3 := ht19.2.1
  have ft4 := ht19.2.2
  have fx0 := hx19.1.1
  have fx1 := hx19.1.2.1
  have fx2 := hx19.1.2.2
  go_wp2_with fail
  refine (s0 _).mono ?_
  rintro e w20 ⟨rfl, hb⟩
  have hB20 : Below w.heap.size w w20 := Below.trans (by go_grown) (hb.mono (by first | omega | (simp; omega)))
  have ha20 := Var.next ha19 (by go_grown) hb
  have hb20 := Var.next hb19 (by go_grown) hb
  have hp20 := Var.next hp19 (by go_grown) hb
  have hq20 := Var.next hq19 (by go_grown) hb
  have hr20 := Var.next hr19 (by go_grown) hb
  have ht20 := Var.next ht19 (by go_grown) hb
  have hx20 := Var.next hx19 (by go_grown) hb
  have hy20 := (Var.new ky ny w19 23).later hb
  have hs20 := hB20.size
  clear hb ha19 hb19 hp19 hq19 hr19 ht19 hx19 hB19 hs19 fa0 fa1 fa2 fb0 fb1 fb2 fp0 fp1 fp2 fp3 fp4 fq0 fq1 fq2 fq3 fq4 fr0 fr1 fr2 fr3 fr4 ft0 ft1 ft2 ft3 ft4 fx0 fx1 fx2
  have fa0 := ha20.1.1
  have fa1 := ha20.1.2.1
  have fa2 := ha20.1.2.2
  have fb0 := hb20.1.1
  have fb1 := hb20.1.2.1
  have fb2 := hb20.1.2.2
  have fp0 := hp20.1.1
  have fp1 := hp20.1.2.1
  have fp2 := hp20.1.2.2
  have fp3 := hp20.2.1
  have fp4 := hp20.2.2
  have fq0 := hq20.1.1
  have fq1 := hq20.1.2.1
  have fq2 := hq20.1.2.2
  have fq3 := hq20.2.1
  have fq4 := hq20.2.2
  have fr0 := hr20.1.1
  have fr1 := hr20.1.2.1
  have fr2 := hr20.1.2.2
  have fr3 := hr20.2.1
  have fr4 := hr20.2.2
  have ft0 := ht20.1.1
  have ft1 := ht20.1.2.1
  have ft2 := ht20.1.2.2
  have ft3 := ht20.2.1
  have ft4 := ht20.2.2
  have fx0 := hx20.1.1
  have fx1 := hx20.1.2.1
  have fx2 := hx20.1.2.2
  have fy0 := hy20.1.1
  have fy1 := hy20.1.2.1
  have fy2 := hy20.1.2.2
  go_wp2_with fail
  refine (hmul _).mono ?_
  rintro e w21 ⟨rfl, hb⟩
  have hB21 : Below w.heap.size w w21 := Below.trans (by go_grown) (hb.mono (by first | omega | (simp; omega)))
  have ha21 := Var.next ha20 (by go_grown) hb
  have hb21 := Var.next hb20 (by go_grown) hb
  have hp21 := Var.next hp20 (by go_grown) hb
  have hq21 := Var.next hq20 (by go_grown) hb
  have hr21 := Var.next hr20 (by go_grown) hb
  have ht21 := Var.next ht20 (by go_grown) hb
  have hx21 := Var.next hx20 (by go_grown) hb
  have hy21 := Var.next hy20 (by go_grown) hb
  have hs21 := hB21.size
  clear hb ha20 hb20 hp20 hq20 hr20 ht20 hx20 hy20 hB20 hs20 fa0 fa1 fa2 fb0 fb1 fb2 fp0 fp1 fp2 fp3 fp4 fq0 fq1 fq2 fq3 fq4 fr0 fr1 fr2 fr3 fr4 ft0 ft1 ft2 ft3 ft4 fx0 fx1 fx2 fy0 fy1 fy2
  have fa0 := ha21.1.1
  have fa1 := ha21.1.2.1
  have fa2 := ha21.1.2.2
  have fb0 := hb21.1.1
  have fb1 := hb21.1.2.1
  have fb2 := hb21.1.2.2
  have fp0 := hp21.1.1
  have fp1 := hp21.1.2.1
  have fp2 := hp21.1.2.2
  have fp3 := hp21.2.1
  have fp4 := hp21.2.2
  have fq0 := hq21.1.1
  have fq1 := hq21.1.2.1
  have fq2 := hq21.1.2.2
  have fq3 := hq21.2.1
  have fq4 := hq21.2.2
  have fr0 := hr21.1.1
  have fr1 := hr21.1.2.1
  have fr2 := hr21.1.2.2
  have fr3 := hr21.2.1
  have fr4 := hr21.2.2
  have ft0 := ht21.1.1
  have ft1 := ht21.1.2.1
  have ft2 := ht21.1.2.2
  have ft3 := ht21.2.1
  have ft4 := ht21.2.2
  have fx0 := hx21.1.1
  have fx1 := hx21.1.2.1
  have fx2 := hx21.1.2.2
  have fy0 := hy21.1.1
  have fy1 := hy21.1.2.1
  have fy2 := hy21.1.2.2
  go_wp2_with fail
  refine (s0 _).mono ?_
  rintro e w22 ⟨rfl, hb⟩
  have hB22 : Below w.heap.size w w22 := Below.trans (by go_grown) (hb.mono (by first | omega | (simp; omega)))
  have ha22 := Var.next ha21 (by go_grown) hb
  have hb22 := Var.next hb21 (by go_grown) hb
  have hp22 := Var.next hp21 (by go_grown) hb
  have hq22 := Var.next hq21 (by go_grown) hb
  have hr22 := Var.next hr21 (by go_grown) hb
  have ht22 := Var.next ht21 (by go_grown) hb
  have hx22 := Var.next hx21 (by go_grown) hb
  have hy22 := Var.next hy21 (by go_grown) hb
  have hz22 := (Var.new kz nz w21 23).later hb
  have hs22 := hB22.size
  clear hb ha21 hb21 hp21 hq21 hr21 ht21 hx21 hy21 hB21 hs21 fa0 fa1 fa2 fb0 fb1 fb2 fp0 fp1 fp2 fp3 fp4 fq0 fq1 fq2 fq3 fq4 fr0 fr1 fr2 fr3 fr4 ft0 ft1 ft2 ft3 ft4 fx0 fx1 fx2 fy0 fy1 fy2
  have fa0 := ha22.1.1
  have fa1 := ha22.1.2.1
  have fa2 := ha22.1.2.2
  have fb0 := hb22.1.1
  have fb1 := hb22.1.2.1
  have fb2 := hb22.1.2.2
  have fp0 := hp22.1.1
  have fp1 := hp22.1.2.1
  have fp2 := hp22.1.2.2
  have fp3 := hp22.2.1
  have fp4 := hp22.2.2
  have fq0 := hq22.1.1
  have fq1 := hq22.1.2.1
  have fq2 := hq22.1.2.2
  have fq3 := hq22.2.1
  have fq4 := hq22.2.2
  have fr0 := hr22.1.1
  have fr1 := hr22.1.2.1
  have fr2 := hr22.1.2.2
  have fr3 := hr22.2.1
  have fr4 := hr22.2.2
  have ft0 := ht22.1.1
  have ft1 := ht22.1.2.1
  have ft2 := ht22.1.2.2
  have ft3 := ht22.2.1
  have ft4 := ht22.2.2
  have fx0 := hx22.1.1
  have fx1 := hx22.1.2.1
  have fx2 := hx22.1.2.2
  have fy0 := hy22.1.1
  have fy1 := hy22.1.2.1
  have fy2 := hy22.1.2.2
  have fz0 := hz22.1.1
  have fz1 := hz22.1.2.1
  have fz2 := hz22.1.2.2
  go_wp2_with fail
  refine (hdiv _).mono ?_
  rintro e w23 ⟨rfl, hb⟩
  have hB23 : Below w.heap.size w w23 := Below.trans (by go_grown) (hb.mono (by first | omega | (simp; omega)))
  have ha23 := Var.next ha22 (by go_grown) hb
  have hb23 := Var.next hb22 (by go_grown) hb
  have hp23 := Var.next hp22 (by go_grown) hb
  have hq23 := Var.next hq22 (by go_grown) hb
  have hr23 := Var.next hr22 (by go_grown) hb
  have ht23 := Var.next ht22 (by go_grown) hb
  have hx23 := Var.next hx22 (by go_grown) hb
  have hy23 := Var.next hy22 (by go_grown) hb
  have hz23 := Var.next hz22 (by go_grown) hb
  have hs23 := hB23.size
  clear hb ha22 hb22 hp22 hq22 hr22 ht22 hx22 hy22 hz22 hB22 hs22 fa0 fa1 fa2 fb0 fb1 fb2 fp0 fp1 fp2 fp3 fp4 fq0 fq1 fq2 fq3 fq4 fr0 fr1 fr2 fr3 fr4 ft0 ft1 ft2 ft3 ft4 fx0 fx1 fx2 fy0 fy1 fy2 fz0 fz1 fz2
  have fa0 := ha23.1.1
  have fa1 := ha23.1.2.1
  have fa2 := ha23.1.2.2
  have fb0 := hb23.1.1
  have fb1 := hb23.1.2.1
  have fb2 := hb23.1.2.2
  have fp0 := hp23.1.1
  have fp1 := hp23.1.2.1
  have fp2 := hp23.1.2.2
  have fp3 := hp23.2.1
  have fp4 := hp23.2.2
  have fq0 := hq23.1.1
  have fq1 := hq23.1.2.1
  have fq2 := hq23.1.2.2
  have fq3 := hq23.2.1
  have fq4 := hq23.2.2
  have fr0 := hr23.1.1
  have fr1 := hr23.1.2.1
  have fr2 := hr23.1.2.2
  have fr3 := hr23.2.1
  have fr4 := hr23.2.2
  have ft0 := ht23.1.1
  have ft1 := ht23.1.2.1
  have ft2 := ht23.1.2.2
  have ft3 := ht23.2.1
  have ft4 := ht23.2.2
  have fx0 := hx23.1.1
  have fx1 := hx23.1.2.1
  have fx2 := hx23.1.2.2
  have fy0 := hy23.1.1
  have fy1 := hy23.1.2.1
  have fy2 := hy23.1.2.2
  have fz0 := hz23.1.1
  have fz1 := hz23.1.2.1
  have fz2 := hz23.1.2.2
  go_wp2_with fail
  refine (s0 _).mono ?_
  rintro e w24 ⟨rfl, hb⟩
  have hB24 : Below w.heap.size w w24 := Below.trans (by go_grown) (hb.mono (by first | omega | (simp; omega)))
  have ha24 := Var.next ha23 (by go_grown) hb
  have hb24 := Var.next hb23 (by go_grown) hb
  have hp24 := Var.next hp23 (by go_grown) hb
  have hq24 := Var.next hq23 (by go_grown) hb
  have hr24 := Var.next hr23 (by go_grown) hb
  have ht24 := Var.next ht23 (by go_grown) hb
  have hx24 := Var.next hx23 (by go_grown) hb
  have hy24 := Var.next hy23 (by go_grown) hb
  have hz24 := Var.next hz23 (by go_grown) hb
  have hv24 := (Var.new kv nv w23 23).later hb
  have hs24 := hB24.size
  clear hb ha23 hb23 hp23 hq23 hr23 ht23 hx23 hy23 hz23 hB23 hs23 fa0 fa1 fa2 fb0 fb1 fb2 fp0 fp1 fp2 fp3 fp4 fq0 fq1 fq2 fq3 fq4 fr0 fr1 fr2 fr3 fr4 ft0 ft1 ft2 ft3 ft4 fx0 fx1 fx2 fy0 fy1 fy2 fz0 fz1 fz2
  have fa0 := ha24.1.1
  have fa1 := ha24.1.2.1
  have fa2 := ha24.1.2.2
  have fb0 := hb24.1.1
  have fb1 := hb24.1.2.1
  have fb2 := hb24.1.2.2
  have fp0 := hp24.1.1
  have fp1 := hp24.1.2.1
  have fp2 := hp24.1.2.2
  have fp3 := hp24.2.1
  have fp4 := hp24.2.2
  have fq0 := hq24.1.1
  have fq1 := hq24.1.2.1
  have fq2 := hq24.1.2.2
  have fq3 := hq24.2.1
  have fq4 := hq24.2.2
  have fr0 := hr24.1.1
  have fr1 := hr24.1.2.1
  have fr2 := hr24.1.2.2
  have fr3 := hr24.2.1
  have fr4 := hr24.2.2
  have ft0 := ht24.1.1
  have ft1 := ht24.1.2.1
  have ft2 := ht24.1.2.2
  have ft3 := ht24.2.1
  have ft4 := ht24.2.2
  have fx0 := hx24.1.1
  have fx1 := hx24.1.2.1
  have fx2 := hx24.1.2.2
  have fy0 := hy24.1.1
  have fy1 := hy24.1.2.1
  have fy2 := hy24.1.2.2
  have fz0 := hz24.1.1
  have fz1 := hz24.1.2.1
  have fz2 := hz24.1.2.2
  have fv0 := hv24.1.1
  have fv1 := hv24.1.2.1
  have fv2 := hv24.1.2.2
  go_wp2_with fail
  refine (rrd _).mono ?_
  rintro e w25 ⟨rfl, hb⟩
  have hB25 : Below w.heap.size w w25 := Below.trans (by go_grown) (hb.mono (by first | omega | (simp; omega)))
  have ha25 := Var.next ha24 (by go_grown) hb
  have hb25 := Var.next hb24 (by go_grown) hb
  have hp25 := Var.next hp24 (by go_grown) hb
  have hq25 := Var.next hq24 (by go_grown) hb
  have hr25 := Var.next hr24 (by go_grown) hb
  have ht25 := Var.next ht24 (by go_grown) hb
  have hx25 := Var.next hx24 (by go_grown) hb
  have hy25 := Var.next hy24 (by go_grown) hb
  have hz25 := Var.next hz24 (by go_grown) hb
  have hv25 := Var.next hv24 (by go_grown) hb
  have hs25 := hB25.size
  clear hb ha24 hb24 hp24 hq24 hr24 ht24 hx24 hy24 hz24 hv24 hB24 hs24 fa0 fa1 fa2 fb0 fb1 fb2 fp0 fp1 fp2 fp3 fp4 fq0 fq1 fq2 fq3 fq4 fr0 fr1 fr2 fr3 fr4 ft0 ft1 ft2 ft3 ft4 fx0 fx1 fx2 fy0 fy1 fy2 fz0 fz1 fz2 fv0 fv1 fv2
  have fa0 := ha25.1.1
  have fa1 := ha25.1.2.1
  have fa2 := ha25.1.2.2
  have fb0 := hb25.1.1
  have fb1 := hb25.1.2.1
  have fb2 := hb25.1.2.2
  have fp0 := hp25.1.1
  have fp1 := hp25.1.2.1
  have fp2 := hp25.1.2.2
  have fp3 := hp25.2.1
  have fp4 := hp25.2.2
  have fq0 := hq25.1.1
  have fq1 := hq25.1.2.1
  have fq2 := hq25.1.2.2
  have fq3 := hq25.2.1
  have fq4 := hq25.2.2
  have fr0 := hr25.1.1
  have fr1 := hr25.1.2.1
  have fr2 := hr25.1.2.2
  have fr3 := hr25.2.1
  have fr4 := hr25.2.2
  have ft0 := ht25.1.1
  have ft1 := ht25.1.2.1
  have ft2 := ht25.1.2.2
  have ft3 := ht25.2.1
  have ft4 := ht25.2.2
  have fx0 := hx25.1.1
  have fx1 := hx25.1.2.1
  have fx2 := hx25.1.2.2
  have fy0 := hy25.1.1
  have fy1 := hy25.1.2.1
  have fy2 := hy25.1.2.2
  have fz0 := hz25.1.1
  have fz1 := hz25.1.2.1
  have fz2 := hz25.1.2.2
  have fv0 := hv25.1.1
  have fv1 := hv25.1.2.1
  have fv2 := hv25.1.2.2
  go_wp2_with fail
  refine (prs _ (hE.later (by go_grown))).mono ?_
  rintro e w26 ⟨rfl, hb⟩
  have hB26 : Below w.heap.size w w26 := Below.trans (by go_grown) (hb.mono (by first | omega | (simp; omega)))
  have ha26 := Var.next ha25 (by go_grown) hb
  have hb26 := Var.next hb25 (by go_grown) hb
  have hp26 := Var.next hp25 (by go_grown) hb
  have hq26 := Var.next hq25 (by go_grown) hb
  have hr26 := Var.next hr25 (by go_grown) hb
  have ht26 := Var.next ht25 (by go_grown) hb
  have hx26 := Var.next hx25 (by go_grown) hb
  have hy26 := Var.next hy25 (by go_grown) hb
  have hz26 := Var.next hz25 (by go_grown) hb
  have hv26 := Var.next hv25 (by go_grown) hb
  have hu26 := (Var.new kc nc w25 23).later hb
  have hs26 := hB26.size
  clear hb ha25 hb25 hp25 hq25 hr25 ht25 hx25 hy25 hz25 hv25 hB25 hs25 fa0 fa1 fa2 fb0 fb1 fb2 fp0 fp1 fp2 fp3 fp4 fq0 fq1 fq2 fq3 fq4 fr0 fr1 fr2 fr3 fr4 ft0 ft1 ft2 ft3 ft4 fx0 fx1 fx2 fy0 fy1 fy2 fz0 fz1 fz2 fv0 fv1 fv2
  have fa0 := ha26.1.1
  have fa1 := ha26.1.2.1
  have fa2 := ha26.1.2.2
  have fb0 := hb26.1.1
  have fb1 := hb26.1.2.1
  have fb2 := hb26.1.2.2
  have fp0 := hp26.1.1
  have fp1 := hp26.1.2.1
  have fp2 := hp26.1.2.2
  have fp3 := hp26.2.1
  have fp4 := hp26.2.2
  have fq0 := hq26.1.1
  have fq1 := hq26.1.2.1
  have fq2 := hq26.1.2.2
  have fq3 := hq26.2.1
  have fq4 := hq26.2.2
  have fr0 := hr26.1.1
  have fr1 := hr26.1.2.1
  have fr2 := hr26.1.2.2
  have fr3 := hr26.2.1
  have fr4 := hr26.2.2
  have ft0 := ht26.1.1
  have ft1 := ht26.1.2.1
  have ft2 := ht26.1.2.2
  have ft3 := ht26.2.1
  have ft4 := ht26.2.2
  have fx0 := hx26.1.1
  have fx1 := hx26.1.2.1
  have fx2 := hx26.1.2.2
  have fy0 := hy26.1.1
  have fy1 := hy26.1.2.1
  have fy2 := hy26.1.2.2
  have fz0 := hz26.1.1
  have fz1 := hz26.1.2.1
  have fz2 := hz26.1.2.2
  have fv0 := hv26.1.1
  have fv1 := hv26.1.2.1
  have fv2 := hv26.1.2.2
  have fu0 := hu26.1.1
  have fu1 := hu26.1.2.1
  have fu2 := hu26.1.2.2
  go_wp2_with fail
  refine (s0 _).mono ?_
  rintro e w27 ⟨rfl, hb⟩
  have hB27 : Below w.heap.size w w27 := Below.trans (by go_grown) (hb.mono (by first | omega | (simp; omega)))
  have ha27 := Var.next ha26 (by go_grown) hb
  have hb27 := Var.next hb26 (by go_grown) hb
  have hp27 := Var.next hp26 (by go_grown) hb
  have hq27 := Var.next hq26 (by go_grown) hb
  have hr27 := Var.next hr26 (by go_grown) hb
  have ht27 := Var.next ht26 (by go_grown) hb
  have hx27 := Var.next hx26 (by go_grown) hb
  have hy27 := Var.next hy26 (by go_grown) hb
  have hz27 := Var.next hz26 (by go_grown) hb
  have hv27 := Var.next hv26 (by go_grown) hb
  have hu27 := Var.next hu26 (by go_grown) hb
  have hc27 := (Var.new kc nc w26 23).later hb
  have hs27 := hB27.size
  clear hb ha26 hb26 hp26 hq26 hr26 ht26 hx26 hy26 hz26 hv26 hu26 hB26 hs26 fa0 fa1 fa2 fb0 fb1 fb2 fp0 fp1 fp2 fp3 fp4 fq0 fq1 fq2 fq3 fq4 fr0 fr1 fr2 fr3 fr4 ft0 ft1 ft2 ft3 ft4 fx0 fx1 fx2 fy0 fy1 fy2 fz0 fz1 fz2 fv0 fv1 fv2 fu0 fu1 fu2
  have fa0 := ha27.1.1
  have fa1 := ha27.1.2.1
  have fa2 := ha27.1.2.2
  have fb0 := hb27.1.1
  have fb1 := hb27.1.2.1
  have fb2 := hb27.1.2.2
  have fp0 := hp27.1.1
  have fp1 := hp27.1.2.1
  have fp2 := hp27.1.2.2
  have fp3 := hp27.2.1
  have fp4 := hp27.2.2
  have fq0 := hq27.1.1
  have fq1 := hq27.1.2.1
  have fq2 := hq27.1.2.2
  have fq3 := hq27.2.1
  have fq4 := hq27.2.2
  have fr0 := hr27.1.1
  have fr1 := hr27.1.2.1
  have fr2 := hr27.1.2.2
  have fr3 := hr27.2.1
  have fr4 := hr27.2.2
  have ft0 := ht27.1.1
  have ft1 := ht27.1.2.1
  have ft2 := ht27.1.2.2
  have ft3 := ht27.2.1
  have ft4 := ht27.2.2
  have fx0 := hx27.1.1
  have fx1 := hx27.1.2.1
  have fx2 := hx27.1.2.2
  have fy0 := hy27.1.1
  have fy1 := hy27.1.2.1
  have fy2 := hy27.1.2.2
  have fz0 := hz27.1.1
  have fz1 := hz27.1.2.1
  have fz2 := hz27.1.2.2
  have fv0 := hv27.1.1
  have fv1 := hv27.1.2.1
  have fv2 := hv27.1.2.2
  have fu0 := hu27.1.1
  have fu1 := hu27.1.2.1
  have fu2 := hu27.1.2.2
  have fc0 := hc27.1.1
  have fc1 := hc27.1.2.1
  have fc2 := hc27.1.2.2
  go_wp2_with fail
  refine (hof _).mono ?_
  rintro e w28 ⟨rfl, hb⟩
  have hB28 : Below w.heap.size w w28 := Below.trans (by go_grown) (hb.mono (by first | omega | (simp; omega)))
  have ha28 := Var.next ha27 (by go_grown) hb
  have hb28 := Var.next hb27 (by go_grown) hb
  have hp28 := Var.next hp27 (by go_grown) hb
  have hq28 := Var.next hq27 (by go_grown) hb
  have hr28 := Var.next hr27 (by go_grown) hb
  have ht28 := Var.next ht27 (by go_grown) hb
  have hx28 := Var.next hx27 (by go_grown) hb
  have hy28 := Var.next hy27 (by go_grown) hb
  have hz28 := Var.next hz27 (by go_grown) hb
  have hv28 := Var.next hv27 (by go_grown) hb
  have hu28 := Var.next hu27 (by go_grown) hb
  have hc28 := Var.next hc27 (by go_grown) hb
  have hs28 := hB28.size
  clear hb ha27 hb27 hp27 hq27 hr27 ht27 hx27 hy27 hz27 hv27 hu27 hc27 hB27 hs27 fa0 fa1 fa2 fb0 fb1 fb2 fp0 fp1 fp2 fp3 fp4 fq0 fq1 fq2 fq3 fq4 fr0 fr1 fr2 fr3 fr4 ft0 ft1 ft2 ft3 ft4 fx0 fx1 fx2 fy0 fy1 fy2 fz0 fz1 fz2 fv0 fv1 fv2 fu0 fu1 fu2 fc0 fc1 fc2
  have fa0 := ha28.1.1
  have fa1 := ha28.1.2.1
  have fa2 := ha28.1.2.2
  have fb0 := hb28.1.1
  have fb1 := hb28.1.2.1
  have fb2 := hb28.1.2.2
  have fp0 := hp28.1.1
  have fp1 := hp28.1.2.1
  have fp2 := hp28.1.2.2
  have fp3 := hp28.2.1
  have fp4 := hp28.2.2
  have fq0 := hq28.1.1
  have fq1 := hq28.1.2.1
  have fq2 := hq28.1.2.2
  have fq3 := hq28.2.1
  have fq4 := hq28.2.2
  have fr0 := hr28.1.1
  have fr1 := hr28.1.2.1
  have fr2 := hr28.1.2.2
  have fr3 := hr28.2.1
  have fr4 := hr28.2.2
  have ft0 := ht28.1.1
  have ft1 := ht28.1.2.1
  have ft2 := ht28.1.2.2
  have ft3 := ht28.2.1
  have ft4 := ht28.2.2
  have fx0 := hx28.1.1
  have fx1 := hx28.1.2.1
  have fx2 := hx28.1.2.2
  have fy0 := hy28.1.1
  have fy1 := hy28.1.2.1
  have fy2 := hy28.1.2.2
  have fz0 := hz28.1.1
  have fz1 := hz28.1.2.1
  have fz2 := hz28.1.2.2
  have fv0 := hv28.1.1
  have fv1 := hv28.1.2.1
  have fv2 := hv28.1.2.2
  have fu0 := hu28.1.1
  have fu1 := hu28.1.2.1
  have fu2 := hu28.1.2.2
  have fc0 := hc28.1.1
  have fc1 := hc28.1.2.1
  have fc2 := hc28.1.2.2
  go_wp2_with fail
  refine (rof _).mono ?_
  rintro e w29 ⟨rfl, hb⟩
  have hB29 : Below w.heap.size w w29 := Below.trans (by go_grown) (hb.mono (by first | omega | (simp; omega)))
  have ha29 := Var.next ha28 (by go_grown) hb
  have hb29 := Var.next hb28 (by go_grown) hb
  have hp29 := Var.next hp28 (by go_grown) hb
  have hq29 := Var.next hq28 (by go_grown) hb
  have hr29 := Var.next hr28 (by go_grown) hb
  have ht29 := Var.next ht28 (by go_grown) hb
  have hx29 := Var.next hx28 (by go_grown) hb
  have hy29 := Var.next hy28 (by go_grown) hb
  have hz29 := Var.next hz28 (by go_grown) hb
  have hv29 := Var.next hv28 (by go_grown) hb
  have hu29 := Var.next hu28 (by go_grown) hb
  have hc29 := Var.next hc28 (by go_grown) hb
  have hs29 := hB29.size
  clear hb ha28 hb28 hp28 hq28 hr28 ht28 hx28 hy28 hz28 hv28 hu28 hc28 hB28 hs28 fa0 fa1 fa2 fb0 fb1 fb2 fp0 fp1 fp2 fp3 fp4 fq0 fq1 fq2 fq3 fq4 fr0 fr1 fr2 fr3 fr4 ft0 ft1 ft2 ft3 ft4 fx0 fx1 fx2 fy0 fy1 fy2 fz0 fz1 fz2 fv0 fv1 fv2 fu0 fu1 fu2 fc0 fc1 fc2
  have fa0 := ha29.1.1
  have fa1 := ha29.1.2.1
  have fa2 := ha29.1.2.2
  have fb0 := hb29.1.1
  have fb1 := hb29.1.2.1
  have fb2 := hb29.1.2.2
  have fp0 := hp29.1.1
  have fp1 := hp29.1.2.1
  have fp2 := hp29.1.2.2
  have fp3 := hp29.2.1
  have fp4 := hp29.2.2
  have fq0 := hq29.1.1
  have fq1 := hq29.1.2.1
  have fq2 := hq29.1.2.2
  have fq3 := hq29.2.1
  have fq4 := hq29.2.2
  have fr0 := hr29.1.1
  have fr1 := hr29.1.2.1
  have fr2 := hr29.1.2.2
  have fr3 := hr29.2.1
  have fr4 := hr29.2.2
  have ft0 := ht29.1.1
  have ft1 := ht29.1.2.1
  have ft2 := ht29.1.2.2
  have ft3 := ht29.2.1
  have ft4 := ht29.2.2
  have fx0 := hx29.1.1
  have fx1 := hx29.1.2.1
  have fx2 := hx29.1.2.2
  have fy0 := hy29.1.1
  have fy1 := hy29.1.2.1
  have fy2 := hy29.1.2.2
  have fz0 := hz29.1.1
  have fz1 := hz29.1.2.1
  have fz2 := hz29.1.2.2
  have fv0 := hv29.1.1
  have fv1 := hv29.1.2.1
  have fv2 := hv29.1.2.2
  have fu0 := hu29.1.1
  have fu1 := hu29.1.2.1
  have fu2 := hu29.1.2.2
  have fc0 := hc29.1.1
  have fc1 := hc29.1.2.1
  have fc2 := hc29.1.2.2
  go_wp2_with fail
  go_ret
  exact ⟨by first | rfl | simp, by go_grown⟩
end Go.Proofs.YtabcpbdgmaeebaaDoor
