/-
  tallylaw1.CellTells returns true for all cells, numbers and texts, where the library's variables hold what they begin with.
-/
import Derived.Test.YtabcpbdgmaeebaaDoorTells1
import Derived.Test.YtabcpbdgmaeebaaDoorTells2
import Derived.Test.YtabcpbdgmaeebaaDoorTells3
import Derived.Test.YtabcpbdgmaeebaaDoorTells4
import Derived.Test.YtabcpbdgmaeebaaDoorTells5
import Derived.Test.YtabcpbdgmaeebaaDoorTells6
import Derived.Test.YtabcpbdgmaeebaaDoorRef3
import Derived.Test.YtabcpbdgmaeebaaDoorRef4
import Derived.Test.YtabcpbdgmaeebaaDoorRef6
namespace Go.Proofs.YtabcpbdgmaeebaaDoor
open Go.ChangeShapes Go.WideShapes Go.ChangeAt Go.RowKit

theorem tells_walk (ka na kb nb n : Int) (s : ByteArray) (w : World) (hE : Env w) (hK : Kind0 w) : Calls Tryd.prog 3 #[.agg #[.int .i64 ka, .int .i64 na], .agg #[.int .i64 kb, .int .i64 nb], .int .i64 n, .string s] w fun e w' => e = .returned (.bool true) ∧ Below w.heap.size w w' := by
  have s0 := same_nil 0
  rw [show ((0 : Int) == 0) = true from rfl] at s0
  have s1 := same_hit 1 1
  rw [show ((1 : Int) == 1) = true from rfl] at s1
  have sc : ∀ c : Int, ∀ w, Kind0 w → Calls Tryd.prog 6 #[.iface 42 (.int .i64 c), .int .i64 c] w fun e w' => e = .returned (.bool true) ∧ Below w.heap.size w w' := by
    intro c w hk
    have h := same_hit c c w hk
    rw [show (c == c) = true from by simp] at h
    exact h
  have hof := of_any n
  have rof := rof_any n
  have rrd := read_any s
  have prs := parse_any s
  cases hga : good ka na
  · have rca := fun w => rcell_no ka na w hga
    have cka := fun w => check_no hga w
    have pra := fun w => print_no ka na w hga
    have hadd := add_no ka na kb nb (by rw [hga]; rfl)
    have hsub := sub_no ka na kb nb (by rw [hga]; rfl)
    have hmul := mul_no ka na kb nb (by rw [hga]; rfl)
    have hdiv := div_no ka na kb nb (by rw [hga]; rfl)
    cases hp : parseP s.data.toList with
    | error c =>
      rw [hp] at rrd prs
      exact tells_f_a ka na kb nb n s w hE hK s0 s1 rca cka pra hadd hsub hmul hdiv c (sc c) rrd prs _ _ hof rof
    | ok p =>
      obtain ⟨k, m⟩ := p
      rw [hp] at rrd prs
      exact tells_o_a ka na kb nb n s w hE hK s0 s1 rca cka pra hadd hsub hmul hdiv k m rrd prs _ _ hof rof
  · have rca := fun w => rcell_yes ka na w hga
    have cka := fun w => check_yes hga w
    have rsh := fun w => show_any ka na hga w
    have pra := fun w hw => print_yes ka na w hw hga
    cases hgb : good kb nb
    · have rcb := fun w => rcell_no kb nb w hgb
      have hadd := add_no ka na kb nb (by rw [hga, hgb]; rfl)
      have hsub := sub_no ka na kb nb (by rw [hga, hgb]; rfl)
      have hmul := mul_no ka na kb nb (by rw [hga, hgb]; rfl)
      have hdiv := div_no ka na kb nb (by rw [hga, hgb]; rfl)
      cases hp : parseP s.data.toList with
      | error c =>
        rw [hp] at rrd prs
        exact tells_f_b ka na kb nb n s w hE hK s0 s1 rca cka _ rsh pra rcb hadd hsub hmul hdiv c (sc c) rrd prs _ _ hof rof
      | ok p =>
        obtain ⟨k, m⟩ := p
        rw [hp] at rrd prs
        exact tells_o_b ka na kb nb n s w hE hK s0 s1 rca cka _ rsh pra rcb hadd hsub hmul hdiv k m rrd prs _ _ hof rof
    · have rcb := fun w => rcell_yes kb nb w hgb
      have rpl := rplus_plus ka na kb nb hga hgb
      have rmi := rplus_minus ka na kb nb hga hgb
      have rti := rtimes_any ka na kb nb hga hgb
      have rov := rover_any ka na kb nb hga hgb
      have hadd := add_yes ka na kb nb hga hgb
      have hsub := sub_yes ka na kb nb hga hgb
      have hmul := mul_yes ka na kb nb hga hgb
      have hdiv := div_yes ka na kb nb hga hgb
      cases hp : parseP s.data.toList with
      | error c =>
        rw [hp] at rrd prs
        exact tells_f_g ka na kb nb n s w hE hK s0 s1 rca cka _ rsh pra rcb _ _ _ _ _ _ _ _ rpl rmi rti rov hadd hsub hmul hdiv c (sc c) rrd prs _ _ hof rof
      | ok p =>
        obtain ⟨k, m⟩ := p
        rw [hp] at rrd prs
        exact tells_o_g ka na kb nb n s w hE hK s0 s1 rca cka _ rsh pra rcb _ _ _ _ _ _ _ _ rpl rmi rti rov hadd hsub hmul hdiv k m rrd prs _ _ hof rof
end Go.Proofs.YtabcpbdgmaeebaaDoor
