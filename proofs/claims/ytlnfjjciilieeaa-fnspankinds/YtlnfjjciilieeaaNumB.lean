/-
  The model's NumDo, and the walks of the laws FnExactNumWrap and FnExactNumDo.
-/
import Derived.Test.YtlnfjjciilieeaaNum
namespace Go.Proofs.Ytlnfjjciilieeaa
open Go.RowKit
set_option linter.unusedVariables false

set_option maxHeartbeats 1000000 in
theorem raw_spec (op a b : Int) (w : World) (ha1 : -16 ≤ a) (ha2 : a ≤ 15) (hb1 : -16 ≤ b) (hb2 : b ≤ 15) (hz : ¬ (op = 4 ∧ b = 0)) :
    Calls Try.prog 61 #[.int .i64 op, .int .i64 a, .int .i64 b] w fun e w' => e = .returned (.int .i64 (rawF op a b)) ∧ w' = w := by
  have hm := raw_bd 3 a b ha1 ha2 hb1 hb2
  have hd := raw_bd 4 a b ha1 ha2 hb1 hb2
  simp [rawF] at hm hd
  rcases op_cases op with rfl | rfl | rfl | rfl | rfl | rfl | h
  iterate 3
    · clear hz hd
      go_enter Try.func61, Try.ntmps61
      go_wp2
      go_ret
      exact ⟨ret_int (by simp [rawF]), rfl⟩
  · have hb0 : (b == 0) = false := by simp at hz; simp [hz]
    go_enter Try.func61, Try.ntmps61
    go_wp2
    go_ret
    exact ⟨ret_int (by simp [rawF]), rfl⟩
  · clear hz hd hm
    by_cases hc : a < b
    · go_enter Try.func61, Try.ntmps61
      go_wp2
      go_ret
      exact ⟨ret_int (by simp [rawF]; omega), rfl⟩
    · go_enter Try.func61, Try.ntmps61
      go_wp2
      go_ret
      exact ⟨ret_int (by simp [rawF]; omega), rfl⟩
  · clear hz hd hm
    by_cases hc : a = b
    · subst hc
      go_enter Try.func61, Try.ntmps61
      go_wp2
      go_ret
      exact ⟨ret_int (by simp [rawF]), rfl⟩
    · have hq : (a == b) = false := by simp [hc]
      go_enter Try.func61, Try.ntmps61
      go_wp2
      go_ret
      exact ⟨ret_int (by simp [rawF]; omega), rfl⟩
  · clear hz hd hm
    have q1 : (op == 1) = false := by simp; omega
    have q2 : (op == 2) = false := by simp; omega
    have q3 : (op == 3) = false := by simp; omega
    have q4 : (op == 4) = false := by simp; omega
    have q5 : (op == 5) = false := by simp; omega
    have q6 : (op == 6) = false := by simp; omega
    have hr : rawF op a b = 0 := by unfold rawF; repeat' split
                                    all_goals omega
    rw [hr]
    clear hr h
    go_enter Try.func61, Try.ntmps61
    go_wp2
    go_ret
    exact ⟨rfl, rfl⟩

theorem can_parts (op b : Int) : canF op b = (inB op 1 6 && !(op == 4 && b == 0)) := by
  rw [Bool.eq_iff_iff]; simp [canF, inB]; omega

end Go.Proofs.Ytlnfjjciilieeaa
