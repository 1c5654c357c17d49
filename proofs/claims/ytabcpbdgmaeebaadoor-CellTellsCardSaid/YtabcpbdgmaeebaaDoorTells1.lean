/-
  The walk of tallylaw1.CellTells, by contracts of what it calls: a text that is no cell, a first cell that is wrong.
-/
import Derived.Test.YtabcpbdgmaeebaaDoorVar
namespace Go.Proofs.YtabcpbdgmaeebaaDoor
open Go.ChangeShapes Go.WideShapes Go.ChangeAt Go.RowKit
set_option linter.unusedVariables false

set_option maxHeartbeats 16000000 in
set_option maxRecDepth 20000 in
theorem tells_f_a (ka na kb nb n : Int) (s : ByteArray) (w : World) (hE : Env w) (hK : Kind0 w) (s0 : ∀ (w : World), Calls Tryd.prog 6 #[.nilIface, .int .i64 0] w fun e w' => e = .returned (.bool true) ∧ Below w.heap.size w w') (s1 : ∀ (w : World), Kind0 w → Calls Tryd.prog 6 #[.iface 42 (.int .i64 1), .int .i64 1] w fun e w' => e = .returned (.bool true) ∧ Below w.heap.size w w') (rca : ∀ (w : World), Calls Tryd.prog 5 #[.agg #[.int .i64 ka, .int .i64 na]] w fun e w' => e = .returned (.int .i64 1) ∧ Below w.heap.size w w') (cka : ∀ (w : World), Calls Tryd.prog 7 #[.agg #[.int .i64 ka, .int .i64 na]] w fun e w' => e = .returned (.iface 42 (.int .i64 1)) ∧ Below w.heap.size w w') (pra : ∀ (w : World), Calls Tryd.prog 9 #[.agg #[.int .i64 ka, .int .i64 na]] w fun e w' => e = .returned (.tuple #[.string ⟨#[]⟩, .iface 42 (.int .i64 1)]) ∧ Below w.heap.size w w') (hadd : ∀ (w : World), Calls Tryd.prog 13 #[.agg #[.int .i64 ka, .int .i64 na], .agg #[.int .i64 kb, .int .i64 nb]] w fun e w' => e = .returned (.tuple #[.agg #[.int .i64 0, .int .i64 0], .iface 42 (.int .i64 1)]) ∧ Below w.heap.size w w') (hsub : ∀ (w : World), Calls Tryd.prog 14 #[.agg #[.int .i64 ka, .int .i64 na], .agg #[.int .i64 kb, .int .i64 nb]] w fun e w' => e = .returned (.tuple #[.agg #[.int .i64 0, .int .i64 0], .iface 42 (.int .i64 1)]) ∧ Below w.heap.size w w') (hmul : ∀ (w : World), Calls Tryd.prog 15 #[.agg #[.int .i64 ka, .int .i64 na], .agg #[.int .i64 kb, .int .i64 nb]] w fun e w' => e = .returned (.tuple #[.agg #[.int .i64 0, .int .i64 0], .iface 42 (.int .i64 1)]) ∧ Below w.heap.size w w') (hdiv : ∀ (w : World), Calls Tryd.prog 16 #[.agg #[.int .i64 ka, .int .i64 na], .agg #[.int .i64 kb, .int .i64 nb]] w fun e w' => e = .returned (.tuple #[.agg #[.int .i64 0, .int .i64 0], .iface 42 (.int .i64 1)]) ∧ Below w.heap.size w w') (c : Int) (sc : ∀ (w : World), Kind0 w → Calls Tryd.prog 6 #[.iface 42 (.int .i64 c), .int .i64 c] w fun e w' => e = .returned (.bool true) ∧ Below w.heap.size w w') (rrd : ∀ (w : World), Calls Tryd.prog 17 #[.string s] w fun e w' => e = .returned (.tuple #[.agg #[.int .i64 0, .int .i64 0], .int .i64 c]) ∧ Below w.heap.size w w') (prs : ∀ (w : World), Env w → Calls Tryd.prog 18 #[.string s] w fun e w' => e = .returned (.tuple #[.agg #[.int .i64 0, .int .i64 0], .iface 42 (.int .i64 c)]) ∧ Below w.heap.size w w') (ko no : Int) (hof : ∀ (w : World), Calls Tryd.prog 19 #[.int .i64 n] w fun e w' => e = .returned (.agg #[.int .i64 ko, .int .i64 no]) ∧ Below w.heap.size w w') (rof : ∀ (w : World), Calls Tryd.prog 20 #[.int .i64 n] w fun e w' => e = .returned (.agg #[.int .i64 ko, .int .i64 no]) ∧ Below w.heap.size w w') : Calls Tryd.prog 3 #[.agg #[.int .i64 ka, .int .i64 na], .agg #[.int .i64 kb, .int .i64 nb], .int .i64 n, .string s] w fun e w' => e = .returned (.bool true) ∧ Below w.heap.size w w' := by
  go_enter Tryd.func3, Tryd.ntmps3
  go_wp2_with fail
  obtain ⟨w0, hw0⟩ : ∃ w0, (w.alloc (.cells #[.int .i64 ka, .int .i64 na] 23)).alloc (.cells #[.int .i64 kb, .int .i64 nb] 23) = w0 := ⟨_, rfl⟩
  have hB0 : Below w.heap.size w w0 := by subst hw0; go_grown
  have ha0 : Var w.heap.size ka na w0 := by subst hw0; exact (Var.new ka na w _).later (by go_grown)
  have hb0 : Var (w.heap.size + 1) kb nb w0 := by subst hw0; have h := Var.new kb nb (w.alloc (.cells #[.int .i64 ka, .int .i64 na] 23)) 23; simp only [World.size_alloc] at h; exact h
  rw [hw0]
  clear hw0
  have hs0 := hB0.size
  have fa0 := ha0.1.1
  have fa1 := ha0.1.2.1
  have fa2 := ha0.1.2.2
  have fb0 := hb0.1.1
  have fb1 := hb0.1.2.1
  have fb2 := hb0.1.2.2
  go_wp2_with fail
  refine (rca _).mono ?_
  rintro e w1 ⟨rfl, hb⟩
  have hB1 : Below w.heap.size w w1 := Below.trans (by go_grown) (hb.mono (by first | omega | (simp; omega)))
  have ha1 := Var.next ha0 (by go_grown) hb
  have hb1 := Var.next hb0 (by go_grown) hb
  have hs1 := hB1.size
  clear hb ha0 hb0 hB0 hs0 fa0 fa1 fa2 fb0 fb1 fb2
  have fa0 := ha1.1.1
  have fa1 := ha1.1.2.1
  have fa2 := ha1.1.2.2
  have fb0 := hb1.1.1
  have fb1 := hb1.1.2.1
  have fb2 := hb1.1.2.2
  go_wp2_with fail
  refine (cka _).mono ?_
  rintro e w2 ⟨rfl, hb⟩
  have hB2 : Below w.heap.size w w2 := Below.trans (by go_grown) (hb.mono (by first | omega | (simp; omega)))
  have ha2 := Var.next ha1 (by go_grown) hb
  have hb2 := Var.next hb1 (by go_grown) hb
  have hs2 := hB2.size
  clear hb ha1 hb1 hB1 hs1 fa0 fa1 fa2 fb0 fb1 fb2
  have fa0 := ha2.1.1
  have fa1 := ha2.1.2.1
  have fa2 := ha2.1.2.2
  have fb0 := hb2.1.1
  have fb1 := hb2.1.2.1
  have fb2 := hb2.1.2.2
  go_wp2_with fail
  refine (s1 _ (hK.later (by go_grown))).mono ?_
  rintro e w3 ⟨rfl, hb⟩
  have hB3 : Below w.heap.size w w3 := Below.trans (by go_grown) (hb.mono (by first | omega | (simp; omega)))
  have ha3 := Var.next ha2 (by go_grown) hb
  have hb3 := Var.next hb2 (by go_grown) hb
  have hs3 := hB3.size
  clear hb ha2 hb2 hB2 hs2 fa0 fa1 fa2 fb0 fb1 fb2
  have fa0 := ha3.1.1
  have fa1 := ha3.1.2.1
  have fa2 := ha3.1.2.2
  have fb0 := hb3.1.1
  have fb1 := hb3.1.2.1
  have fb2 := hb3.1.2.2
  go_wp2_with fail
  refine (pra _).mono ?_
  rintro e w4 ⟨rfl, hb⟩
  have hB4 : Below w.heap.size w w4 := Below.trans (by go_grown) (hb.mono (by first | omega | (simp; omega)))
  have ha4 := Var.next ha3 (by go_grown) hb
  have hb4 := Var.next hb3 (by go_grown) hb
  have hs4 := hB4.size
  clear hb ha3 hb3 hB3 hs3 fa0 fa1 fa2 fb0 fb1 fb2
  have fa0 := ha4.1.1
  have fa1 := ha4.1.2.1
  have fa2 := ha4.1.2.2
  have fb0 := hb4.1.1
  have fb1 := hb4.1.2.1
  have fb2 := hb4.1.2.2
  go_wp2_with fail
  refine (s1 _ (hK.later (by go_grown))).mono ?_
  rintro e w5 ⟨rfl, hb⟩
  have hB5 : Below w.heap.size w w5 := Below.trans (by go_grown) (hb.mono (by first | omega | (simp; omega)))
  have ha5 := Var.next ha4 (by go_grown) hb
  have hb5 := Var.next hb4 (by go_grown) hb
  have hs5 := hB5.size
  clear hb ha4 hb4 hB4 hs4 fa0 fa1 fa2 fb0 fb1 fb2
  have fa0 := ha5.1.1
  have fa1 := ha5.1.2.1
  have fa2 := ha5.1.2.2
  have fb0 := hb5.1.1
  have fb1 := hb5.1.2.1
  have fb2 := hb5.1.2.2
  have ga1 := four_cell fa1 fa0
  have ga2 := four_cell fa2 fa0
  have gb1 := four_cell fb1 fb0
  have gb2 := four_cell fb2 fb0
  go_wp2_with fail
  clear ga1 ga2 gb1 gb2
  obtain ⟨w6, hw6⟩ : ∃ w6, (((w5.alloc (.cells #[.int .i64 0, .int .i64 0] 23)).alloc (.cells #[.int .i64 0, .int .i64 0] 23)).alloc (.cells #[.int .i64 0, .int .i64 0] 23)).alloc (.cells #[.int .i64 0, .int .i64 0] 23) = w6 := ⟨_, rfl⟩
  obtain ⟨hp6, hq6, hr6, ht6, hb⟩ := four w5 23
  rw [hw6] at hp6 hq6 hr6 ht6 hb ⊢
  clear hw6
  have hB6 : Below w.heap.size w w6 := Below.next hB5 hb
  have ha6 := ha5.later hb
  have hb6 := hb5.later hb
  have hs6 := hB6.size
  have hdd : w.heap.size + 1 < w5.heap.size := fb0
  clear hb ha5 hb5 hB5 hs5 fa0 fa1 fa2 fb0 fb1 fb2
  have fa0 := ha6.1.1
  have fa1 := ha6.1.2.1
  have fa2 := ha6.1.2.2
  have fb0 := hb6.1.1
  have fb1 := hb6.1.2.1
  have fb2 := hb6.1.2.2
  have fp0 := hp6.1.1
  have fp1 := hp6.1.2.1
  have fp2 := hp6.1.2.2
  have fp3 := hp6.2.1
  have fp4 := hp6.2.2
  have fq0 := hq6.1.1
  have fq1 := hq6.1.2.1
  have fq2 := hq6.1.2.2
  have fq3 := hq6.2.1
  have fq4 := hq6.2.2
  have fr0 := hr6.1.1
  have fr1 := hr6.1.2.1
  have fr2 := hr6.1.2.2
  have fr3 := hr6.2.1
  have fr4 := hr6.2.2
  have ft0 := ht6.1.1
  have ft1 := ht6.1.2.1
  have ft2 := ht6.1.2.2
  have ft3 := ht6.2.1
  have ft4 := ht6.2.2
  refine (hadd _).mono ?_
  rintro e w7 ⟨rfl, hb⟩
  have hB7 : Below w.heap.size w w7 := Below.trans (by go_grown) (hb.mono (by first | omega | (simp; omega)))
  have ha7 := Var.next ha6 (by go_grown) hb
  have hb7 := Var.next hb6 (by go_grown) hb
  have hp7 := Var.next hp6 (by go_grown) hb
  have hq7 := Var.next hq6 (by go_grown) hb
  have hr7 := Var.next hr6 (by go_grown) hb
  have ht7 := Var.next ht6 (by go_grown) hb
  have hs7 := hB7.size
  clear hb ha6 hb6 hp6 hq6 hr6 ht6 hB6 hs6 fa0 fa1 fa2 fb0 fb1 fb2 fp0 fp1 fp2 fp3 fp4 fq0 fq1 fq2 fq3 fq4 fr0 fr1 fr2 fr3 fr4 ft0 ft1 ft2 ft3 ft4
  have fa0 := ha7.1.1
  have fa1 := ha7.1.2.1
  have fa2 := ha7.1.2.2
  have fb0 := hb7.1.1
  have fb1 := hb7.1.2.1
  have fb2 := hb7.1.2.2
  have fp0 := hp7.1.1
  have fp1 := hp7.1.2.1
  have fp2 := hp7.1.2.2
  have fp3 := hp7.2.1
  have fp4 := hp7.2.2
  have fq0 := hq7.1.1
  have fq1 := hq7.1.2.1
  have fq2 := hq7.1.2.2
  have fq3 := hq7.2.1
  have fq4 := hq7.2.2
  have fr0 := hr7.1.1
  have fr1 := hr7.1.2.1
  have fr2 := hr7.1.2.2
  have fr3 := hr7.2.1
  have fr4 := hr7.2.2
  have ft0 := ht7.1.1
  have ft1 := ht7.1.2.1
  have ft2 := ht7.1.2.2
  have ft3 := ht7.2.1
  have ft4 := ht7.2.2
  go_wp2_with fail
  refine (s1 _ (hK.later (by go_grown))).mono ?_
  rintro e w8 ⟨rfl, hb⟩
  have hB8 : Below w.heap.size w w8 := Below.trans (by go_grown) (hb.mono (by first | omega | (simp; omega)))
  have ha8 := Var.next ha7 (by go_grown) hb
  have hb8 := Var.next hb7 (by go_grown) hb
  have hp8 := Var.next hp7 (by go_grown) hb
  have hq8 := Var.next hq7 (by go_grown) hb
  have hr8 := Var.next hr7 (by go_grown) hb
  have ht8 := Var.next ht7 (by go_grown) hb
  have hx8 := (Var.new 0 0 w7 23).later hb
  have hs8 := hB8.size
  clear hb ha7 hb7 hp7 hq7 hr7 ht7 hB7 hs7 fa0 fa1 fa2 fb0 fb1 fb2 fp0 fp1 fp2 fp3 fp4 fq0 fq1 fq2 fq3 fq4 fr0 fr1 fr2 fr3 fr4 ft0 ft1 ft2 ft3 ft4
  have fa0 := ha8.1.1
  have fa1 := ha8.1.2.1
  have fa2 := ha8.1.2.2
  have fb0 := hb8.1.1
  have fb1 := hb8.1.2.1
  have fb2 := hb8.1.2.2
  have fp0 := hp8.1.1
  have fp1 := hp8.1.2.1
  have fp2 := hp8.1.2.2
  have fp3 := hp8.2.1
  have fp4 := hp8.2.2
  have fq0 := hq8.1.1
  have fq1 := hq8.1.2.1
  have fq2 := hq8.1.2.2
  have fq3 := hq8.2.1
  have fq4 := hq8.2.2
  have fr0 := hr8.1.1
  have fr1 := hr8.1.2.1
  have fr2 := hr8.1.2.2
  have fr3 := hr8.2.1
  have fr4 := hr8.2.2
  have ft0 := ht8.1.1
  have ft1 := ht8.1.2.1
  have ft2 := ht8.1.2.2
  have ft3 := ht8.2.1
  have ft4 := ht8.2.2
  have fx0 := hx8.1.1
  have fx1 := hx8.1.2.1
  have fx2 := hx8.1.2.2
  go_wp2_with fail
  refine (hsub _).mono ?_
  rintro e w9 ⟨rfl, hb⟩
  have hB9 : Below w.heap.size w w9 := Below.trans (by go_grown) (hb.mono (by first | omega | (simp; omega)))
  have ha9 := Var.next ha8 (by go_grown) hb
  have hb9 := Var.next hb8 (by go_grown) hb
  have hp9 := Var.next hp8 (by go_grown) hb
  have hq9 := Var.next hq8 (by go_grown) hb
  have hr9 := Var.next hr8 (by go_grown) hb
  have ht9 := Var.next ht8 (by go_grown) hb
  have hx9 := Var.next hx8 (by go_grown) hb
  have hs9 := hB9.size
  clear hb ha8 hb8 hp8 hq8 hr8 ht8 hx8 hB8 hs8 fa0 fa1 fa2 fb0 fb1 fb2 fp0 fp1 fp2 fp3 fp4 fq0 fq1 fq2 fq3 fq4 fr0 fr1 fr2 fr3 fr4 ft0 ft1 ft2 ft3 ft4 fx0 fx1 fx2
  have fa0 := ha9.1.1
  have fa1 := ha9.1.2.1
  have fa2 := ha9.1.2.2
  have fb0 := hb9.1.1
  have fb1 := hb9.1.2.1
  have fb2 := hb9.1.2.2
  have fp0 := hp9.1.1
  have fp1 := hp9.1.2.1
  have fp2 := hp9.1.2.2
  have fp3 := hp9.2.1
  have fp4 := hp9.2.2
  have fq0 := hq9.1.1
  have fq1 := hq9.1.2.1
  have fq2 := hq9.1.2.2
  have fq3 := hq9.2.1
  have fq4 := hq9.2.2
  have fr0 := hr9.1.1
  have fr1 := hr9.1.2.1
  have fr2 := hr9.1.2.2
  have fr3 := hr9.2.1
  have fr4 := hr9.2.2
  have ft0 := ht9.1.1
  have ft1 := ht9.1.2.1
  have ft2 := ht9.1.2.2
  have ft3 := ht9.2.1
  have ft4 := ht9.2.2
  have fx0 := hx9.1.1
  have fx1 := hx9.1.2.1
  have fx2 := hx9.1.2.2
  go_wp2_with fail
  refine (s1 _ (hK.later (by go_grown))).mono ?_
  rintro e w10 ⟨rfl, hb⟩
  have hB10 : Below w.heap.size w w10 := Below.trans (by go_grown) (hb.mono (by first | omega | (simp; omega)))
  have ha10 := Var.next ha9 (by go_grown) hb
  have hb10 := Var.next hb9 (by go_grown) hb
  have hp10 := Var.next hp9 (by go_grown) hb
  have hq10 := Var.next hq9 (by go_grown) hb
  have hr10 := Var.next hr9 (by go_grown) hb
  have ht10 := Var.next ht9 (by go_grown) hb
  have hx10 := Var.next hx9 (by go_grown) hb
  have hy10 := (Var.new 0 0 w9 23).later hb
  have hs10 := hB10.size
  clear hb ha9 hb9 hp9 hq9 hr9 ht9 hx9 hB9 hs9 fa0 fa1 fa2 fb0 fb1 fb2 fp0 fp1 fp2 fp3 fp4 fq0 fq1 fq2 fq3 fq4 fr0 fr1 fr2 fr3 fr4 ft0 ft1 ft2 ft3 ft4 fx0 fx1 fx2
  have fa0 := ha10.1.1
  have fa1 := ha10.1.2.1
  have fa2 := ha10.1.2.2
  have fb0 := hb10.1.1
  have fb1 := hb10.1.2.1
  have fb2 := hb10.1.2.2
  have fp0 := hp10.1.1
  have fp1 := hp10.1.2.1
  have fp2 := hp10.1.2.2
  have fp3 := hp10.2.1
  have fp4 := hp10.2.2
  have fq0 := hq10.1.1
  have fq1 := hq10.1.2.1
  have fq2 := hq10.1.2.2
  have fq3 := hq10.2.1
  have fq4 := hq10.2.2
  have fr0 := hr10.1.1
  have fr1 := hr10.1.2.1
  have fr2 := hr10.1.2.2
  have fr3 := hr10.2.1
  have fr4 := hr10.2.2
  have ft0 := ht10.1.1
  have ft1 := ht10.1.2.1
  have ft2 := ht10.1.2.2
  have ft3 := ht10.2.1
  have ft4 := ht10.2.2
  have fx0 := hx10.1.1
  have fx1 := hx10.1.2.1
  have fx2 := hx10.1.2.2
  have fy0 := hy10.1.1
  have fy1 := hy10.1.2.1
  have fy2 := hy10.1.2.2
  go_wp2_with fail
  refine (hmul _).mono ?_
  rintro e w11 ⟨rfl, hb⟩
  have hB11 : Below w.heap.size w w11 := Below.trans (by go_grown) (hb.mono (by first | omega | (simp; omega)))
  have ha11 := Var.next ha10 (by go_grown) hb
  have hb11 := Var.next hb10 (by go_grown) hb
  have hp11 := Var.next hp10 (by go_grown) hb
  have hq11 := Var.next hq10 (by go_grown) hb
  have hr11 := Var.next hr10 (by go_grown) hb
  have ht11 := Var.next ht10 (by go_grown) hb
  have hx11 := Var.next hx10 (by go_grown) hb
  have hy11 := Var.next hy10 (by go_grown) hb
  have hs11 := hB11.size
  clear hb ha10 hb10 hp10 hq10 hr10 ht10 hx10 hy10 hB10 hs10 fa0 fa1 fa2 fb0 fb1 fb2 fp0 fp1 fp2 fp3 fp4 fq0 fq1 fq2 fq3 fq4 fr0 fr1 fr2 fr3 fr4 ft0 ft1 ft2 ft3 ft4 fx0 fx1 fx2 fy0 fy1 fy2
  have fa0 := ha11.1.1
  have fa1 := ha11.1.2.1
  have fa2 := ha11.1.2.2
  have fb0 := hb11.1.1
  have fb1 := hb11.1.2.1
  have fb2 := hb11.1.2.2
  have fp0 := hp11.1.1
  have fp1 := hp11.1.2.1
  have fp2 := hp11.1.2.2
  have fp3 := hp11.2.1
  have fp4 := hp11.2.2
  have fq0 := hq11.1.1
  have fq1 := hq11.1.2.1
  have fq2 := hq11.1.2.2
  have fq3 := hq11.2.1
  have fq4 := hq11.2.2
  have fr0 := hr11.1.1
  have fr1 := hr11.1.2.1
  have fr2 := hr11.1.2.2
  have fr3 := hr11.2.1
  have fr4 := hr11.2.2
  have ft0 := ht11.1.1
  have ft1 := ht11.1.2.1
  have ft2 := ht11.1.2.2
  have ft3 := ht11.2.1
  have ft4 := ht11.2.2
  have fx0 := hx11.1.1
  have fx1 := hx11.1.2.1
  have fx2 := hx11.1.2.2
  have fy0 := hy11.1.1
  have fy1 := hy11.1.2.1
  have fy2 := hy11.1.2.2
  go_wp2_with fail
  refine (s1 _ (hK.later (by go_grown))).mono ?_
  rintro e w12 ⟨rfl, hb⟩
  have hB12 : Below w.heap.size w w12 := Below.trans (by go_grown) (hb.mono (by first | omega | (simp; omega)))
  have ha12 := Var.next ha11 (by go_grown) hb
  have hb12 := Var.next hb11 (by go_grown) hb
  have hp12 := Var.next hp11 (by go_grown) hb
  have hq12 := Var.next hq11 (by go_grown) hb
  have hr12 := Var.next hr11 (by go_grown) hb
  have ht12 := Var.next ht11 (by go_grown) hb
  have hx12 := Var.next hx11 (by go_grown) hb
  have hy12 := Var.next hy11 (by go_grown) hb
  have hz12 := (Var.new 0 0 w11 23).later hb
  have hs12 := hB12.size
  clear hb ha11 hb11 hp11 hq11 hr11 ht11 hx11 hy11 hB11 hs11 fa0 fa1 fa2 fb0 fb1 fb2 fp0 fp1 fp2 fp3 fp4 fq0 fq1 fq2 fq3 fq4 fr0 fr1 fr2 fr3 fr4 ft0 ft1 ft2 ft3 ft4 fx0 fx1 fx2 fy0 fy1 fy2
  have fa0 := ha12.1.1
  have fa1 := ha12.1.2.1
  have fa2 := ha12.1.2.2
  have fb0 := hb12.1.1
  have fb1 := hb12.1.2.1
  have fb2 := hb12.1.2.2
  have fp0 := hp12.1.1
  have fp1 := hp12.1.2.1
  have fp2 := hp12.1.2.2
  have fp3 := hp12.2.1
  have fp4 := hp12.2.2
  have fq0 := hq12.1.1
  have fq1 := hq12.1.2.1
  have fq2 := hq12.1.2.2
  have fq3 := hq12.2.1
  have fq4 := hq12.2.2
  have fr0 := hr12.1.1
  have fr1 := hr12.1.2.1
  have fr2 := hr12.1.2.2
  have fr3 := hr12.2.1
  have fr4 := hr12.2.2
  have ft0 := ht12.1.1
  have ft1 := ht12.1.2.1
  have ft2 := ht12.1.2.2
  have ft3 := ht12.2.1
  have ft4 := ht12.2.2
  have fx0 := hx12.1.1
  have fx1 := hx12.1.2.1
  have fx2 := hx12.1.2.2
  have fy0 := hy12.1.1
  have fy1 := hy12.1.2.1
  have fy2 := hy12.1.2.2
  have fz0 := hz12.1.1
  have fz1 := hz12.1.2.1
  have fz2 := hz12.1.2.2
  go_wp2_with fail
  refine (hdiv _).mono ?_
  rintro e w13 ⟨rfl, hb⟩
  have hB13 : Below w.heap.size w w13 := Below.trans (by go_grown) (hb.mono (by first | omega | (simp; omega)))
  have ha13 := Var.next ha12 (by go_grown) hb
  have hb13 := Var.next hb12 (by go_grown) hb
  have hp13 := Var.next hp12 (by go_grown) hb
  have hq13 := Var.next hq12 (by go_grown) hb
  have hr13 := Var.next hr12 (by go_grown) hb
  have ht13 := Var.next ht12 (by go_grown) hb
  have hx13 := Var.next hx12 (by go_grown) hb
  have hy13 := Var.next hy12 (by go_grown) hb
  have hz13 := Var.next hz12 (by go_grown) hb
  have hs13 := hB13.size
  clear hb ha12 hb12 hp12 hq12 hr12 ht12 hx12 hy12 hz12 hB12 hs12 fa0 fa1 fa2 fb0 fb1 fb2 fp0 fp1 fp2 fp3 fp4 fq0 fq1 fq2 fq3 fq4 fr0 fr1 fr2 fr3 fr4 ft0 ft1 ft2 ft3 ft4 fx0 fx1 fx2 fy0 fy1 fy2 fz0 fz1 fz2
  have fa0 := ha13.1.1
  have fa1 := ha13.1.2.1
  have fa2 := ha13.1.2.2
  have fb0 := hb13.1.1
  have fb1 := hb13.1.2.1
  have fb2 := hb13.1.2.2
  have fp0 := hp13.1.1
  have fp1 := hp13.1.2.1
  have fp2 := hp13.1.2.2
  have fp3 := hp13.2.1
  have fp4 := hp13.2.2
  have fq0 := hq13.1.1
  have fq1 := hq13.1.2.1
  have fq2 := hq13.1.2.2
  have fq3 := hq13.2.1
  have fq4 := hq13.2.2
  have fr0 := hr13.1.1
  have fr1 := hr13.1.2.1
  have fr2 := hr13.1.2.2
  have fr3 := hr13.2.1
  have fr4 := hr13.2.2
  have ft0 := ht13.1.1
  have ft1 := ht13.1.2.1
  have ft2 := ht13.1.2.2
  have ft3 := ht13.2.1
  have ft4 := ht13.2.2
  have fx0 := hx13.1.1
  have fx1 := hx13.1.2.1
  have fx2 := hx13.1.2.2
  have fy0 := hy13.1.1
  have fy1 := hy13.1.2.1
  have fy2 := hy13.1.2.2
  have fz0 := hz13.1.1
  have fz1 := hz13.1.2.1
  have fz2 := hz13.1.2.2
  go_wp2_with fail
  refine (s1 _ (hK.later (by go_grown))).mono ?_
  rintro e w14 ⟨rfl, hb⟩
  have hB14 : Below w.heap.size w w14 := Below.trans (by go_grown) (hb.mono (by first | omega | (simp; omega)))
  have ha14 := Var.next ha13 (by go_grown) hb
  have hb14 := Var.next hb13 (by go_grown) hb
  have hp14 := Var.next hp13 (by go_grown) hb
  have hq14 := Var.next hq13 (by go_grown) hb
  have hr14 := Var.next hr13 (by go_grown) hb
  have ht14 := Var.next ht13 (by go_grown) hb
  have hx14 := Var.next hx13 (by go_grown) hb
  have hy14 := Var.next hy13 (by go_grown) hb
  have hz14 := Var.next hz13 (by go_grown) hb
  have hv14 := (Var.new 0 0 w13 23).later hb
  have hs14 := hB14.size
  clear hb ha13 hb13 hp13 hq13 hr13 ht13 hx13 hy13 hz13 hB13 hs13 fa0 fa1 fa2 fb0 fb1 fb2 fp0 fp1 fp2 fp3 fp4 fq0 fq1 fq2 fq3 fq4 fr0 fr1 fr2 fr3 fr4 ft0 ft1 ft2 ft3 ft4 fx0 fx1 fx2 fy0 fy1 fy2 fz0 fz1 fz2
  have fa0 := ha14.1.1
  have fa1 := ha14.1.2.1
  have fa2 := ha14.1.2.2
  have fb0 := hb14.1.1
  have fb1 := hb14.1.2.1
  have fb2 := hb14.1.2.2
  have fp0 := hp14.1.1
  have fp1 := hp14.1.2.1
  have fp2 := hp14.1.2.2
  have fp3 := hp14.2.1
  have fp4 := hp14.2.2
  have fq0 := hq14.1.1
  have fq1 := hq14.1.2.1
  have fq2 := hq14.1.2.2
  have fq3 := hq14.2.1
  have fq4 := hq14.2.2
  have fr0 := hr14.1.1
  have fr1 := hr14.1.2.1
  have fr2 := hr14.1.2.2
  have fr3 := hr14.2.1
  have fr4 := hr14.2.2
  have ft0 := ht14.1.1
  have ft1 := ht14.1.2.1
  have ft2 := ht14.1.2.2
  have ft3 := ht14.2.1
  have ft4 := ht14.2.2
  have fx0 := hx14.1.1
  have fx1 := hx14.1.2.1
  have fx2 := hx14.1.2.2
  have fy0 := hy14.1.1
  have fy1 := hy14.1.2.1
  have fy2 := hy14.1.2.2
  have fz0 := hz14.1.1
  have fz1 := hz14.1.2.1
  have fz2 := hz14.1.2.2
  have fv0 := hv14.1.1
  have fv1 := hv14.1.2.1
  have fv2 := hv14.1.2.2
  go_wp2_with fail
  refine (rrd _).mono ?_
  rintro e w15 ⟨rfl, hb⟩
  have hB15 : Below w.heap.size w w15 := Below.trans (by go_grown) (hb.mono (by first | omega | (simp; omega)))
  have ha15 := Var.next ha14 (by go_grown) hb
  have hb15 := Var.next hb14 (by go_grown) hb
  have hp15 := Var.next hp14 (by go_grown) hb
  have hq15 := Var.next hq14 (by go_grown) hb
  have hr15 := Var.next hr14 (by go_grown) hb
  have ht15 := Var.next ht14 (by go_grown) hb
  have hx15 := Var.next hx14 (by go_grown) hb
  have hy15 := Var.next hy14 (by go_grown) hb
  have hz15 := Var.next hz14 (by go_grown) hb
  have hv15 := Var.next hv14 (by go_grown) hb
  have hs15 := hB15.size
  clear hb ha14 hb14 hp14 hq14 hr14 ht14 hx14 hy14 hz14 hv14 hB14 hs14 fa0 fa1 fa2 fb0 fb1 fb2 fp0 fp1 fp2 fp3 fp4 fq0 fq1 fq2 fq3 fq4 fr0 fr1 fr2 fr3 fr4 ft0 ft1 ft2 ft3 ft4 fx0 fx1 fx2 fy0 fy1 fy2 fz0 fz1 fz2 fv0 fv1 fv2
  have fa0 := ha15.1.1
  have fa1 := ha15.1.2.1
  have fa2 := ha15.1.2.2
  have fb0 := hb15.1.1
  have fb1 := hb15.1.2.1
  have fb2 := hb15.1.2.2
  have fp0 := hp15.1.1
  have fp1 := hp15.1.2.1
  have fp2 := hp15.1.2.2
  have fp3 := hp15.2.1
  have fp4 := hp15.2.2
  have fq0 := hq15.1.1
  have fq1 := hq15.1.2.1
  have fq2 := hq15.1.2.2
  have fq3 := hq15.2.1
  have fq4 := hq15.2.2
  have fr0 := hr15.1.1
  have fr1 := hr15.1.2.1
  have fr2 := hr15.1.2.2
  have fr3 := hr15.2.1
  have fr4 := hr15.2.2
  have ft0 := ht15.1.1
  have ft1 := ht15.1.2.1
  have ft2 := ht15.1.2.2
  have ft3 := ht15.2.1
  have ft4 := ht15.2.2
  have fx0 := hx15.1.1
  have fx1 := hx15.1.2.1
  have fx2 := hx15.1.2.2
  have fy0 := hy15.1.1
  have fy1 := hy15.1.2.1
  have fy2 := hy15.1.2.2
  have fz0 := hz15.1.1
  have fz1 := hz15.1.2.1
  have fz2 := hz15.1.2.2
  have fv0 := hv15.1.1
  have fv1 := hv15.1.2.1
  have fv2 := hv15.1.2.2
  go_wp2_with fail
  refine (prs _ (hE.later (by go_grown))).mono ?_
  rintro e w16 ⟨rfl, hb⟩
  have hB16 : Below w.heap.size w w16 := Below.trans (by go_grown) (hb.mono (by first | omega | (simp; omega)))
  have ha16 := Var.next ha15 (by go_grown) hb
  have hb16 := Var.next hb15 (by go_grown) hb
  have hp16 := Var.next hp15 (by go_grown) hb
  have hq16 := Var.next hq15 (by go_grown) hb
  have hr16 := Var.next hr15 (by go_grown) hb
  have ht16 := Var.next ht15 (by go_grown) hb
  have hx16 := Var.next hx15 (by go_grown) hb
  have hy16 := Var.next hy15 (by go_grown) hb
  have hz16 := Var.next hz15 (by go_grown) hb
  have hv16 := Var.next hv15 (by go_grown) hb
  have hu16 := (Var.new 0 0 w15 23).later hb
  have hs16 := hB16.size
  clear hb ha15 hb15 hp15 hq15 hr15 ht15 hx15 hy15 hz15 hv15 hB15 hs15 fa0 fa1 fa2 fb0 fb1 fb2 fp0 fp1 fp2 fp3 fp4 fq0 fq1 fq2 fq3 fq4 fr0 fr1 fr2 fr3 fr4 ft0 ft1 ft2 ft3 ft4 fx0 fx1 fx2 fy0 fy1 fy2 fz0 fz1 fz2 fv0 fv1 fv2
  have fa0 := ha16.1.1
  have fa1 := ha16.1.2.1
  have fa2 := ha16.1.2.2
  have fb0 := hb16.1.1
  have fb1 := hb16.1.2.1
  have fb2 := hb16.1.2.2
  have fp0 := hp16.1.1
  have fp1 := hp16.1.2.1
  have fp2 := hp16.1.2.2
  have fp3 := hp16.2.1
  have fp4 := hp16.2.2
  have fq0 := hq16.1.1
  have fq1 := hq16.1.2.1
  have fq2 := hq16.1.2.2
  have fq3 := hq16.2.1
  have fq4 := hq16.2.2
  have fr0 := hr16.1.1
  have fr1 := hr16.1.2.1
  have fr2 := hr16.1.2.2
  have fr3 := hr16.2.1
  have fr4 := hr16.2.2
  have ft0 := ht16.1.1
  have ft1 := ht16.1.2.1
  have ft2 := ht16.1.2.2
  have ft3 := ht16.2.1
  have ft4 := ht16.2.2
  have fx0 := hx16.1.1
  have fx1 := hx16.1.2.1
  have fx2 := hx16.1.2.2
  have fy0 := hy16.1.1
  have fy1 := hy16.1.2.1
  have fy2 := hy16.1.2.2
  have fz0 := hz16.1.1
  have fz1 := hz16.1.2.1
  have fz2 := hz16.1.2.2
  have fv0 := hv16.1.1
  have fv1 := hv16.1.2.1
  have fv2 := hv16.1.2.2
  have fu0 := hu16.1.1
  have fu1 := hu16.1.2.1
  have fu2 := hu16.1.2.2
  go_wp2_with fail
  refine (sc _ (hK.later (by go_grown))).mono ?_
  rintro e w17 ⟨rfl, hb⟩
  have hB17 : Below w.heap.size w w17 := Below.trans (by go_grown) (hb.mono (by first | omega | (simp; omega)))
  have ha17 := Var.next ha16 (by go_grown) hb
  have hb17 := Var.next hb16 (by go_grown) hb
  have hp17 := Var.next hp16 (by go_grown) hb
  have hq17 := Var.next hq16 (by go_grown) hb
  have hr17 := Var.next hr16 (by go_grown) hb
  have ht17 := Var.next ht16 (by go_grown) hb
  have hx17 := Var.next hx16 (by go_grown) hb
  have hy17 := Var.next hy16 (by go_grown) hb
  have hz17 := Var.next hz16 (by go_grown) hb
  have hv17 := Var.next hv16 (by go_grown) hb
  have hu17 := Var.next hu16 (by go_grown) hb
  have hc17 := (Var.new 0 0 w16 23).later hb
  have hs17 := hB17.size
  clear hb ha16 hb16 hp16 hq16 hr16 ht16 hx16 hy16 hz16 hv16 hu16 hB16 hs16 fa0 fa1 fa2 fb0 fb1 fb2 fp0 fp1 fp2 fp3 fp4 fq0 fq1 fq2 fq3 fq4 fr0 fr1 fr2 fr3 fr4 ft0 ft1 ft2 ft3 ft4 fx0 fx1 fx2 fy0 fy1 fy2 fz0 fz1 fz2 fv0 fv1 fv2 fu0 fu1 fu2
  have fa0 := ha17.1.1
  have fa1 := ha17.1.2.1
  have fa2 := ha17.1.2.2
  have fb0 := hb17.1.1
  have fb1 := hb17.1.2.1
  have fb2 := hb17.1.2.2
  have fp0 := hp17.1.1
  have fp1 := hp17.1.2.1
  have fp2 := hp17.1.2.2
  have fp3 := hp17.2.1
  have fp4 := hp17.2.2
  have fq0 := hq17.1.1
  have fq1 := hq17.1.2.1
  have fq2 := hq17.1.2.2
  have fq3 := hq17.2.1
  have fq4 := hq17.2.2
  have fr0 := hr17.1.1
  have fr1 := hr17.1.2.1
  have fr2 := hr17.1.2.2
  have fr3 := hr17.2.1
  have fr4 := hr17.2.2
  have ft0 := ht17.1.1
  have ft1 := ht17.1.2.1
  have ft2 := ht17.1.2.2
  have ft3 := ht17.2.1
  have ft4 := ht17.2.2
  have fx0 := hx17.1.1
  have fx1 := hx17.1.2.1
  have fx2 := hx17.1.2.2
  have fy0 := hy17.1.1
  have fy1 := hy17.1.2.1
  have fy2 := hy17.1.2.2
  have fz0 := hz17.1.1
  have fz1 := hz17.1.2.1
  have fz2 := hz17.1.2.2
  have fv0 := hv17.1.1
  have fv1 := hv17.1.2.1
  have fv2 := hv17.1.2.2
  have fu0 := hu17.1.1
  have fu1 := hu17.1.2.1
  have fu2 := hu17.1.2.2
  have fc0 := hc17.1.1
  have fc1 := hc17.1.2.1
  have fc2 := hc17.1.2.2
  go_wp2_with fail
  refine (hof _).mono ?_
  rintro e w18 ⟨rfl, hb⟩
  have hB18 : Below w.heap.size w w18 := Below.trans (by go_grown) (hb.mono (by first | omega | (simp; omega)))
  have ha18 := Var.next ha17 (by go_grown) hb
  have hb18 := Var.next hb17 (by go_grown) hb
  have hp18 := Var.next hp17 (by go_grown) hb
  have hq18 := Var.next hq17 (by go_grown) hb
  have hr18 := Var.next hr17 (by go_grown) hb
  have ht18 := Var.next ht17 (by go_grown) hb
  have hx18 := Var.next hx17 (by go_grown) hb
  have hy18 := Var.next hy17 (by go_grown) hb
  have hz18 := Var.next hz17 (by go_grown) hb
  have hv18 := Var.next hv17 (by go_grown) hb
  have hu18 := Var.next hu17 (by go_grown) hb
  have hc18 := Var.next hc17 (by go_grown) hb
  have hs18 := hB18.size
  clear hb ha17 hb17 hp17 hq17 hr17 ht17 hx17 hy17 hz17 hv17 hu17 hc17 hB17 hs17 fa0 fa1 fa2 fb0 fb1 fb2 fp0 fp1 fp2 fp3 fp4 fq0 fq1 fq2 fq3 fq4 fr0 fr1 fr2 fr3 fr4 ft0 ft1 ft2 ft3 ft4 fx0 fx1 fx2 fy0 fy1 fy2 fz0 fz1 fz2 fv0 fv1 fv2 fu0 fu1 fu2 fc0 fc1 fc2
  have fa0 := ha18.1.1
  have fa1 := ha18.1.2.1
  have fa2 := ha18.1.2.2
  have fb0 := hb18.1.1
  have fb1 := hb18.1.2.1
  have fb2 := hb18.1.2.2
  have fp0 := hp18.1.1
  have fp1 := hp18.1.2.1
  have fp2 := hp18.1.2.2
  have fp3 := hp18.2.1
  have fp4 := hp18.2.2
  have fq0 := hq18.1.1
  have fq1 := hq18.1.2.1
  have fq2 := hq18.1.2.2
  have fq3 := hq18.2.1
  have fq4 := hq18.2.2
  have fr0 := hr18.1.1
  have fr1 := hr18.1.2.1
  have fr2 := hr18.1.2.2
  have fr3 := hr18.2.1
  have fr4 := hr18.2.2
  have ft0 := ht18.1.1
  have ft1 := ht18.1.2.1
  have ft2 := ht18.1.2.2
  have ft3 := ht18.2.1
  have ft4 := ht18.2.2
  have fx0 := hx18.1.1
  have fx1 := hx18.1.2.1
  have fx2 := hx18.1.2.2
  have fy0 := hy18.1.1
  have fy1 := hy18.1.2.1
  have fy2 := hy18.1.2.2
  have fz0 := hz18.1.1
  have fz1 := hz18.1.2.1
  have fz2 := hz18.1.2.2
  have fv0 := hv18.1.1
  have fv1 := hv18.1.2.1
  have fv2 := hv18.1.2.2
  have fu0 := hu18.1.1
  have fu1 := hu18.1.2.1
  have fu2 := hu18.1.2.2
  have fc0 := hc18.1.1
  have fc1 := hc18.1.2.1
  have fc2 := hc18.1.2.2
  go_wp2_with fail
  refine (rof _).mono ?_
  rintro e w19 ⟨rfl, hb⟩
  have hB19 : Below w.heap.size w w19 := Below.trans (by go_grown) (hb.mono (by first | omega | (simp; omega)))
  have ha19 := Var.next ha18 (by go_grown) hb
  have hb19 := Var.next hb18 (by go_grown) hb
  have hp19 := Var.next hp18 (by go_grown) hb
  have hq19 := Var.next hq18 (by go_grown) hb
  have hr19 := Var.next hr18 (by go_grown) hb
  have ht19 := Var.next ht18 (by go_grown) hb
  have hx19 := Var.next hx18 (by go_grown) hb
  have hy19 := Var.next hy18 (by go_grown) hb
  have hz19 := Var.next hz18 (by go_grown) hb
  have hv19 := Var.next hv18 (by go_grown) hb
  have hu19 := Var.next hu18 (by go_grown) hb
  have hc19 := Var.next hc18 (by go_grown) hb
  have hs19 := hB19.size
  clear hb ha18 hb18 hp18 hq18 hr18 ht18 hx18 hy18 hz18 hv18 hu18 hc18 hB18 hs18 fa0 fa1 fa2 fb0 fb1 fb2 fp0 fp1 fp2 fp3 fp4 fq0 fq1 fq2 fq3 fq4 fr0 fr1 fr2 fr3 fr4 ft0 ft1 ft2 ft3 ft4 fx0 fx1 fx2 fy0 fy1 fy2 fz0 fz1 fz2 fv0 fv1 fv2 fu0 fu1 fu2 fc0 fc1 fc2
  have fa0 := ha19.1.1
  have fa1 := ha19.1.2.1
  have fa2 := ha19.1.2.2
  have fb0 := hb19.1.1
  have fb1 := hb19.1.2.1
  have fb2 := hb19.1.2.2
  have fp0 := hp19.1.1
  have fp1 := hp19.1.2.1
  have fp2 := hp19.1.2.2
  have fp3 := hp19.2.1
  have fp4 := hp19.2.2
  have fq0 := hq19.1.1
  have fq1 := hq19.1.2.1
  have fq2 := hq19.1.2.2
  have fq3 := hq19.2.1
  have fq4 := hq19.2.2
  have fr0 := hr19.1.1
  have fr1 := hr19.1.2.1
  have fr2 := hr19.1.2.2
  have fr3 := hr19.2.1
  have fr4 := hr19.2.2
  have ft0 := ht19.1.1
  have ft1 := ht19.1.2.1
  have ft2 := ht19.1.2.2
  have ft3 := ht19.2.1
  have ft4 := ht19.2.2
  have fx0 := hx19.1.1
  have fx1 := hx19.1.2.1
  have fx2 := hx19.1.2.2
  have fy0 := hy19.1.1
  have fy1 := hy19.1.2.1
  have fy2 := hy19.1.2.2
  have fz0 := hz19.1.1
  have fz1 := hz19.1.2.1
  have fz2 := hz19.1.2.2
  have fv0 := hv19.1.1
  have fv1 := hv19.1.2.1
  have fv2 := hv19.1.2.2
  have fu0 := hu19.1.1
  have fu1 := hu19.1.2.1
  have fu2 := hu19.1.2.2
  have fc0 := hc19.1.1
  have fc1 := hc19.1.2.1
  have fc2 := hc19.1.2.2
  go_wp2_with fail
  go_ret
  exact ⟨by first | rfl | simp, by go_grown⟩
end Go.Proofs.YtabcpbdgmaeebaaDoor
