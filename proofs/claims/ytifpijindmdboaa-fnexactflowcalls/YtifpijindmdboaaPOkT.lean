/-
  The contract of the model's ProgOk, whatever the program.
-/
import Derived.Test.YtifpijindmdboaaPOkS
namespace Go.Proofs.Ytifpijindmdboaa
open Go.RowKit
set_option linter.unusedVariables false
set_option linter.unusedSimpArgs false

theorem progOkF_in {P : List (List I4)} (h1 : 1 ≤ P.length) (h4 : P.length ≤ 4) : progOkF P = P.all fun c => codeOkF c P.length := by
  simp [progOkF, h1, h4]
theorem progOkF_out {P : List (List I4)} (h : P.length = 0 ∨ 4 < P.length) : progOkF P = false := by
  unfold progOkF
  rw [show decide (1 ≤ P.length ∧ P.length ≤ 4) = false from decide_eq_false (by omega)]
  rfl

set_option maxHeartbeats 1000000 in
theorem progOk_spec (x : World) (B : Nat) (v : Value) (P : List (List I4)) (h : ProgAt x B v P) :
    Calls Try.prog 61 #[v] x fun e y => e = .returned (.bool (progOkF P)) ∧ Below x.heap.size x y := by
  by_cases hr : 1 ≤ P.length ∧ P.length ≤ 4
  · rw [progOkF_in hr.1 hr.2]
    exact progOk_spec_in x B v P h hr.1 hr.2
  · rw [progOkF_out (by omega)]
    obtain ⟨p, cap, rfl, hm, _⟩ := h
    have hin : inI P.length 1 4 = false := by simp [inI]; omega
    generalize P.length = n at *
    unfold maxLen at hm
    have hni : (n : Int) ≤ 9223372036854775807 := by omega
    clear hr hm
    go_enter Try.func61, Try.ntmps61
    go_wp2_with (go_at_call 73; refine (l6In_e _ _ _ _).mono ?_; rintro e w' ⟨rfl, hw'⟩; have hw2 := hw'.symm; subst hw2)
    go_ret
    exact ⟨rfl, Below.refl _ _⟩

end Go.Proofs.Ytifpijindmdboaa
