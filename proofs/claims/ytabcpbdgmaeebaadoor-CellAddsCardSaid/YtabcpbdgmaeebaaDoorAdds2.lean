/-
  The walk of tallylaw1.CellAdds, by contracts of what it calls: a text that is a cell, a first cell that is wrong.
-/
import Derived.Test.YtabcpbdgmaeebaaDoorTexts
import Derived.Test.YtabcpbdgmaeebaaDoorAdds1
namespace Go.Proofs.YtabcpbdgmaeebaaDoor
open Go.ChangeShapes Go.WideShapes Go.ChangeAt Go.RowKit

set_option maxHeartbeats 8000000 in
set_option maxRecDepth 20000 in
theorem adds_o_a (ka na kb nb : Int) (s : ByteArray) (w : World) (hE : Env w) (kc nc : Int) (hpar : ∀ (w : World), Env w → Calls Tryd.prog 18 #[.string s] w fun e w' => e = .returned (.tuple #[.agg #[.int .i64 kc, .int .i64 nc], .nilIface]) ∧ Below w.heap.size w w') (hprc : ∀ (w : World), Env w → Calls Tryd.prog 9 #[.agg #[.int .i64 kc, .int .i64 nc]] w fun e w' => e = .returned (.tuple #[.string s, .nilIface]) ∧ Below w.heap.size w w') (hpra : ∀ (w : World), Calls Tryd.prog 9 #[.agg #[.int .i64 ka, .int .i64 na]] w fun e w' => e = .returned (.tuple #[.string ⟨#[]⟩, .iface 42 (.int .i64 1)]) ∧ Below w.heap.size w w') (hab : ∀ (w : World), Calls Tryd.prog 13 #[.agg #[.int .i64 ka, .int .i64 na], .agg #[.int .i64 kb, .int .i64 nb]] w fun e w' => e = .returned (.tuple #[.agg #[.int .i64 0, .int .i64 0], .iface 42 (.int .i64 1)]) ∧ Below w.heap.size w w') (hba : ∀ (w : World), Calls Tryd.prog 13 #[.agg #[.int .i64 kb, .int .i64 nb], .agg #[.int .i64 ka, .int .i64 na]] w fun e w' => e = .returned (.tuple #[.agg #[.int .i64 0, .int .i64 0], .iface 42 (.int .i64 1)]) ∧ Below w.heap.size w w') (mab : ∀ (w : World), Calls Tryd.prog 15 #[.agg #[.int .i64 ka, .int .i64 na], .agg #[.int .i64 kb, .int .i64 nb]] w fun e w' => e = .returned (.tuple #[.agg #[.int .i64 0, .int .i64 0], .iface 42 (.int .i64 1)]) ∧ Below w.heap.size w w') (mba : ∀ (w : World), Calls Tryd.prog 15 #[.agg #[.int .i64 kb, .int .i64 nb], .agg #[.int .i64 ka, .int .i64 na]] w fun e w' => e = .returned (.tuple #[.agg #[.int .i64 0, .int .i64 0], .iface 42 (.int .i64 1)]) ∧ Below w.heap.size w w') : Calls Tryd.prog 4 #[.agg #[.int .i64 ka, .int .i64 na], .agg #[.int .i64 kb, .int .i64 nb], .string s] w fun e w' => e = .returned (.bool true) ∧ Below w.heap.size w w' := by
  have h2 := of_in (n := 2) (by omega) (by omega)
  have h3 := of_in (n := 3) (by omega) (by omega)
  have h5 := of_in (n := 5) (by omega) (by omega)
  have h23 : OpTo 13 1 2 1 3 1 5 .nilIface := add_yes 1 2 1 3 (by decide) (by decide)
  unfold OpTo at h23
  have hfl : ∀ w, (Instr.field 23 (.agg #[.int .i64 1, .int .i64 5]) 1).run Tryd.prog w = .ok (.int .i64 5) w := fun _ => by kernel_rfl
  go_enter Tryd.func4, Tryd.ntmps4
  go_wp2_with fail
  obtain ⟨w0, hw0⟩ : ∃ w0, (w.alloc (.cells #[.int .i64 ka, .int .i64 na] 23)).alloc (.cells #[.int .i64 kb, .int .i64 nb] 23) = w0 := ⟨_, rfl⟩
  have hB0 : Below w.heap.size w w0 := by subst hw0; go_grown
  have ha0 : At w.heap.size ka na w0 := by subst hw0; exact (At.new ka na w _).later (by go_grown)
  have hb0 : At (w.heap.size + 1) kb nb w0 := by subst hw0; have h := At.new kb nb (w.alloc (.cells #[.int .i64 ka, .int .i64 na] 23)) 23; simp only [World.size_alloc] at h; exact h
  rw [hw0]
  clear hw0
  have hE0 := hE.later hB0
  have hs0 := hB0.size
  have fa0 := ha0.1
  have fa1 := ha0.2.1
  have fa2 := ha0.2.2
  have fb0 := hb0.1
  have fb1 := hb0.2.1
  have fb2 := hb0.2.2
  go_wp2_with fail
  refine (h2 _).mono ?_
  rintro e w1 ⟨rfl, hb⟩
  have hB1 : Below w.heap.size w w1 := Below.trans (by go_grown) (hb.mono (by first | omega | (simp; omega)))
  have ha1 := At.next ha0 (by go_grown) hb
  have hb1 := At.next hb0 (by go_grown) hb
  have hE1 := hE.later hB1
  have hs1 := hB1.size
  clear hb ha0 hb0 hE0 hB0 hs0 fa0 fa1 fa2 fb0 fb1 fb2
  have fa0 := ha1.1
  have fa1 := ha1.2.1
  have fa2 := ha1.2.2
  have fb0 := hb1.1
  have fb1 := hb1.2.1
  have fb2 := hb1.2.2
  go_wp2_with fail
  refine (h3 _).mono ?_
  rintro e w2 ⟨rfl, hb⟩
  have hB2 : Below w.heap.size w w2 := Below.trans (by go_grown) (hb.mono (by first | omega | (simp; omega)))
  have ha2 := At.next ha1 (by go_grown) hb
  have hb2 := At.next hb1 (by go_grown) hb
  have hE2 := hE.later hB2
  have hs2 := hB2.size
  clear hb ha1 hb1 hE1 hB1 hs1 fa0 fa1 fa2 fb0 fb1 fb2
  have fa0 := ha2.1
  have fa1 := ha2.2.1
  have fa2 := ha2.2.2
  have fb0 := hb2.1
  have fb1 := hb2.2.1
  have fb2 := hb2.2.2
  go_wp2_with fail
  refine (h23 _).mono ?_
  rintro e w3 ⟨rfl, hb⟩
  have hB3 : Below w.heap.size w w3 := Below.trans (by go_grown) (hb.mono (by first | omega | (simp; omega)))
  have ha3 := At.next ha2 (by go_grown) hb
  have hb3 := At.next hb2 (by go_grown) hb
  have hE3 := hE.later hB3
  have hs3 := hB3.size
  clear hb ha2 hb2 hE2 hB2 hs2 fa0 fa1 fa2 fb0 fb1 fb2
  have fa0 := ha3.1
  have fa1 := ha3.2.1
  have fa2 := ha3.2.2
  have fb0 := hb3.1
  have fb1 := hb3.2.1
  have fb2 := hb3.2.2
  go_wp2_with fail
  obtain ⟨v0, hv0⟩ : ∃ v0, w3.alloc (.cells #[.int .i64 1, .int .i64 5] 23) = v0 := ⟨_, rfl⟩
  have hX : At w3.heap.size 1 5 v0 := by subst hv0; exact At.new _ _ _ _
  have hBv : Below w3.heap.size w3 v0 := by subst hv0; go_grown
  rw [hv0]
  clear hv0
  skip
  go_region_held3 (fun w' => Below v0.heap.size v0 w' ∧ w'.cell? ⟨w3.heap.size, 0, none⟩ = some (.int .i64 1) ∧ w'.cell? ⟨w3.heap.size, 1, none⟩ = some (.int .i64 5))
    ((refine held_of hX ?_; go_grown; done))
    (first | (go_at_call 19; refine (h5 _).mono ?_; rintro e v1 ⟨rfl, hb1⟩; have hN1 := Below.next (W0 := v0) (by go_grown) hb1; have hy1 := bsize hN1; clear hb1))
  have hb : Below w3.heap.size w3 v1 := Below.next hBv hN1
  obtain ⟨w4, rfl⟩ : ∃ w4 : World, w4 = v1 := ⟨_, rfl⟩
  clear hX hBv hN1
  have hB4 : Below w.heap.size w w4 := Below.trans (by go_grown) (hb.mono (by first | omega | (simp; omega)))
  have ha4 := At.next ha3 (by go_grown) hb
  have hb4 := At.next hb3 (by go_grown) hb
  have hE4 := hE.later hB4
  have hs4 := hB4.size
  clear hb ha3 hb3 hE3 hB3 hs3 fa0 fa1 fa2 fb0 fb1 fb2
  have fa0 := ha4.1
  have fa1 := ha4.2.1
  have fa2 := ha4.2.2
  have fb0 := hb4.1
  have fb1 := hb4.2.1
  have fb2 := hb4.2.2
  go_wp2_with fail
  refine (hpar _ (hE.later (by go_grown))).mono ?_
  rintro e w5 ⟨rfl, hb⟩
  have hB5 : Below w.heap.size w w5 := Below.trans (by go_grown) (hb.mono (by first | omega | (simp; omega)))
  have ha5 := At.next ha4 (by go_grown) hb
  have hb5 := At.next hb4 (by go_grown) hb
  have hE5 := hE.later hB5
  have hs5 := hB5.size
  clear hb ha4 hb4 hE4 hB4 hs4 fa0 fa1 fa2 fb0 fb1 fb2
  have fa0 := ha5.1
  have fa1 := ha5.2.1
  have fa2 := ha5.2.2
  have fb0 := hb5.1
  have fb1 := hb5.2.1
  have fb2 := hb5.2.2
  go_wp2_with fail
  refine (hprc _ (hE.later (by go_grown))).mono ?_
  rintro e w6 ⟨rfl, hb⟩
  have hB6 : Below w.heap.size w w6 := Below.trans (by go_grown) (hb.mono (by first | omega | (simp; omega)))
  have ha6 := At.next ha5 (by go_grown) hb
  have hb6 := At.next hb5 (by go_grown) hb
  have hc6 := (At.new kc nc w5 23).later hb
  have hE6 := hE.later hB6
  have hs6 := hB6.size
  clear hb ha5 hb5 hE5 hB5 hs5 fa0 fa1 fa2 fb0 fb1 fb2
  have fa0 := ha6.1
  have fa1 := ha6.2.1
  have fa2 := ha6.2.2
  have fb0 := hb6.1
  have fb1 := hb6.2.1
  have fb2 := hb6.2.2
  have fc0 := hc6.1
  have fc1 := hc6.2.1
  have fc2 := hc6.2.2
  go_wp2_with fail
  refine (hpra _).mono ?_
  rintro e w7 ⟨rfl, hb⟩
  have hB7 : Below w.heap.size w w7 := Below.trans (by go_grown) (hb.mono (by first | omega | (simp; omega)))
  have ha7 := At.next ha6 (by go_grown) hb
  have hb7 := At.next hb6 (by go_grown) hb
  have hc7 := At.next hc6 (by go_grown) hb
  have hE7 := hE.later hB7
  have hs7 := hB7.size
  clear hb ha6 hb6 hc6 hE6 hB6 hs6 fa0 fa1 fa2 fb0 fb1 fb2 fc0 fc1 fc2
  have fa0 := ha7.1
  have fa1 := ha7.2.1
  have fa2 := ha7.2.2
  have fb0 := hb7.1
  have fb1 := hb7.2.1
  have fb2 := hb7.2.2
  have fc0 := hc7.1
  have fc1 := hc7.2.1
  have fc2 := hc7.2.2
  go_wp2_with fail
  refine (hab _).mono ?_
  rintro e w8 ⟨rfl, hb⟩
  have hB8 : Below w.heap.size w w8 := Below.trans (by go_grown) (hb.mono (by first | omega | (simp; omega)))
  have ha8 := At.next ha7 (by go_grown) hb
  have hb8 := At.next hb7 (by go_grown) hb
  have hc8 := At.next hc7 (by go_grown) hb
  have hE8 := hE.later hB8
  have hs8 := hB8.size
  clear hb ha7 hb7 hc7 hE7 hB7 hs7 fa0 fa1 fa2 fb0 fb1 fb2 fc0 fc1 fc2
  have fa0 := ha8.1
  have fa1 := ha8.2.1
  have fa2 := ha8.2.2
  have fb0 := hb8.1
  have fb1 := hb8.2.1
  have fb2 := hb8.2.2
  have fc0 := hc8.1
  have fc1 := hc8.2.1
  have fc2 := hc8.2.2
  go_wp2_with fail
  refine (hba _).mono ?_
  rintro e w9 ⟨rfl, hb⟩
  have hB9 : Below w.heap.size w w9 := Below.trans (by go_grown) (hb.mono (by first | omega | (simp; omega)))
  have ha9 := At.next ha8 (by go_grown) hb
  have hb9 := At.next hb8 (by go_grown) hb
  have hc9 := At.next hc8 (by go_grown) hb
  have hx9 := (At.new 0 0 w8 23).later hb
  have hE9 := hE.later hB9
  have hs9 := hB9.size
  clear hb ha8 hb8 hc8 hE8 hB8 hs8 fa0 fa1 fa2 fb0 fb1 fb2 fc0 fc1 fc2
  have fa0 := ha9.1
  have fa1 := ha9.2.1
  have fa2 := ha9.2.2
  have fb0 := hb9.1
  have fb1 := hb9.2.1
  have fb2 := hb9.2.2
  have fc0 := hc9.1
  have fc1 := hc9.2.1
  have fc2 := hc9.2.2
  have fx0 := hx9.1
  have fx1 := hx9.2.1
  have fx2 := hx9.2.2
  go_wp2_with fail
  refine (mab _).mono ?_
  rintro e w10 ⟨rfl, hb⟩
  have hB10 : Below w.heap.size w w10 := Below.trans (by go_grown) (hb.mono (by first | omega | (simp; omega)))
  have ha10 := At.next ha9 (by go_grown) hb
  have hb10 := At.next hb9 (by go_grown) hb
  have hc10 := At.next hc9 (by go_grown) hb
  have hx10 := At.next hx9 (by go_grown) hb
  have hy10 := (At.new 0 0 w9 23).later hb
  have hE10 := hE.later hB10
  have hs10 := hB10.size
  clear hb ha9 hb9 hc9 hx9 hE9 hB9 hs9 fa0 fa1 fa2 fb0 fb1 fb2 fc0 fc1 fc2 fx0 fx1 fx2
  have fa0 := ha10.1
  have fa1 := ha10.2.1
  have fa2 := ha10.2.2
  have fb0 := hb10.1
  have fb1 := hb10.2.1
  have fb2 := hb10.2.2
  have fc0 := hc10.1
  have fc1 := hc10.2.1
  have fc2 := hc10.2.2
  have fx0 := hx10.1
  have fx1 := hx10.2.1
  have fx2 := hx10.2.2
  have fy0 := hy10.1
  have fy1 := hy10.2.1
  have fy2 := hy10.2.2
  go_wp2_with fail
  refine (mba _).mono ?_
  rintro e w11 ⟨rfl, hb⟩
  have hB11 : Below w.heap.size w w11 := Below.trans (by go_grown) (hb.mono (by first | omega | (simp; omega)))
  have ha11 := At.next ha10 (by go_grown) hb
  have hb11 := At.next hb10 (by go_grown) hb
  have hc11 := At.next hc10 (by go_grown) hb
  have hx11 := At.next hx10 (by go_grown) hb
  have hy11 := At.next hy10 (by go_grown) hb
  have hz11 := (At.new 0 0 w10 23).later hb
  have hE11 := hE.later hB11
  have hs11 := hB11.size
  clear hb ha10 hb10 hc10 hx10 hy10 hE10 hB10 hs10 fa0 fa1 fa2 fb0 fb1 fb2 fc0 fc1 fc2 fx0 fx1 fx2 fy0 fy1 fy2
  have fa0 := ha11.1
  have fa1 := ha11.2.1
  have fa2 := ha11.2.2
  have fb0 := hb11.1
  have fb1 := hb11.2.1
  have fb2 := hb11.2.2
  have fc0 := hc11.1
  have fc1 := hc11.2.1
  have fc2 := hc11.2.2
  have fx0 := hx11.1
  have fx1 := hx11.2.1
  have fx2 := hx11.2.2
  have fy0 := hy11.1
  have fy1 := hy11.2.1
  have fy2 := hy11.2.2
  have fz0 := hz11.1
  have fz1 := hz11.2.1
  have fz2 := hz11.2.2
  go_wp2
  go_ret
  exact ⟨by first | rfl | simp, by go_grown⟩
end Go.Proofs.YtabcpbdgmaeebaaDoor
