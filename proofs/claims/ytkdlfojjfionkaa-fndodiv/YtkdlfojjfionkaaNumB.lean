/-
  The model's NumDo, and the walks of the laws FnExactNumWrap and FnExactNumDo.
-/
import Derived.Test.YtkdlfojjfionkaaNum
namespace Go.Proofs.Ytkdlfojjfionkaa
open Go.RowKit
set_option linter.unusedVariables false

set_option maxHeartbeats 1000000 in
theorem raw_spec (op a b : Int) (w : World) (ha1 : -16 ≤ a) (ha2 : a ≤ 15) (hb1 : -16 ≤ b) (hb2 : b ≤ 15) (hz : ¬ (op = 4 ∧ b = 0)) :
    Calls Try.prog 40 #[.int .i64 op, .int .i64 a, .int .i64 b] w fun e w' => e = .returned (.int .i64 (rawF op a b)) ∧ w' = w := by
  have hm := raw_bd 3 a b ha1 ha2 hb1 hb2
  have hd := raw_bd 4 a b ha1 ha2 hb1 hb2
  simp [rawF] at hm hd
  rcases op_cases op with rfl | rfl | rfl | rfl | rfl | rfl | h
  iterate 3
    · clear hz hd
      go_enter Try.func40, Try.ntmps40
      go_wp2
      go_ret
      exact ⟨ret_int (by simp [rawF]), rfl⟩
  · have hb0 : (b == 0) = false := by simp at hz; simp [hz]
    go_enter Try.func40, Try.ntmps40
    go_wp2
    go_ret
    exact ⟨ret_int (by simp [rawF]), rfl⟩
  · clear hz hd hm
    by_cases hc : a < b
    · go_enter Try.func40, Try.ntmps40
      go_wp2
      go_ret
      exact ⟨ret_int (by simp [rawF]; omega), rfl⟩
    · go_enter Try.func40, Try.ntmps40
      go_wp2
      go_ret
      exact ⟨ret_int (by simp [rawF]; omega), rfl⟩
  · clear hz hd hm
    by_cases hc : a = b
    · subst hc
      go_enter Try.func40, Try.ntmps40
      go_wp2
      go_ret
      exact ⟨ret_int (by simp [rawF]), rfl⟩
    · have hq : (a == b) = false := by simp [hc]
      go_enter Try.func40, Try.ntmps40
      go_wp2
      go_ret
      exact ⟨ret_int (by simp [rawF]; omega), rfl⟩
  · clear hz hd hm
    have q1 : (op == 1) = false := by simp; omega
    have q2 : (op == 2) = false := by simp; omega
    have q3 : (op == 3) = false := by simp; omega
    have q4 : (op == 4) = false := by simp; omega
    have q5 : (op == 5) = false := by simp; omega
    have q6 : (op == 6) = false := by simp; omega
    have hr : rawF op a b = 0 := by unfold rawF; repeat' split
                                    all_goals omega
    rw [hr]
    clear hr h
    go_enter Try.func40, Try.ntmps40
    go_wp2
    go_ret
    exact ⟨rfl, rfl⟩

theorem can_parts (op b : Int) : canF op b = (inB op 1 6 && !(op == 4 && b == 0)) := by
  rw [Bool.eq_iff_iff]; simp [canF, inB]; omega

set_option maxHeartbeats 1000000 in
theorem do_spec (op a b : Int) (w : World) :
    Calls Try.prog 17 #[.int .i64 op, .int .i64 a, .int .i64 b] w fun e w' => e = .returned (.tuple #[.int .i64 (doF op a b), .bool (doOk op a b)]) ∧ w' = w := by
  cases h1 : inB op 1 6
  · have e1 : doOk op a b = false := by simp [doOk, can_parts, h1]
    have e2 : doF op a b = 0 := by simp [doF, e1]
    rw [e1, e2]
    clear e1 e2
    go_enter Try.func17, Try.ntmps17
    go_wp2_with (first | (go_at_call 38; refine (l6In_any _ _ _ _).mono ?_; rintro e w' ⟨rfl, rfl⟩) | (go_at_call 39; refine (l1Word_any _ _).mono ?_; rintro e w' ⟨rfl, rfl⟩))
    go_ret2
    exact ⟨rfl, rfl⟩
  · cases ha : isW a
    · have e1 : doOk op a b = false := by simp [doOk, ha]
      have e2 : doF op a b = 0 := by simp [doF, e1]
      rw [e1, e2]
      clear e1 e2
      go_enter Try.func17, Try.ntmps17
      go_wp2_with (first | (go_at_call 38; refine (l6In_any _ _ _ _).mono ?_; rintro e w' ⟨rfl, rfl⟩) | (go_at_call 39; refine (l1Word_any _ _).mono ?_; rintro e w' ⟨rfl, rfl⟩))
      go_ret2
      exact ⟨rfl, rfl⟩
    · cases hb : isW b
      · have e1 : doOk op a b = false := by simp [doOk, hb]
        have e2 : doF op a b = 0 := by simp [doF, e1]
        rw [e1, e2]
        clear e1 e2
        go_enter Try.func17, Try.ntmps17
        go_wp2_with (first | (go_at_call 38; refine (l6In_any _ _ _ _).mono ?_; rintro e w' ⟨rfl, rfl⟩) | (go_at_call 39; refine (l1Word_any _ _).mono ?_; rintro e w' ⟨rfl, rfl⟩))
        go_ret2
        exact ⟨rfl, rfl⟩
      · obtain ⟨ha1, ha2⟩ := isW_t ha
        obtain ⟨hb1, hb2⟩ := isW_t hb
        by_cases hz : op = 4 ∧ b = 0
        · obtain ⟨rfl, rfl⟩ := hz
          have e1 : doOk 4 a 0 = false := by simp [doOk, can_parts]
          have e2 : doF 4 a 0 = 0 := by simp [doF, e1]
          rw [e1, e2]
          clear e1 e2 ha1 ha2 hb1 hb2
          go_enter Try.func17, Try.ntmps17
          go_wp2_with (first | (go_at_call 38; refine (l6In_any _ _ _ _).mono ?_; rintro e w' ⟨rfl, rfl⟩) | (go_at_call 39; refine (l1Word_any _ _).mono ?_; rintro e w' ⟨rfl, rfl⟩))
          go_ret2
          exact ⟨rfl, rfl⟩
        · have hq : (op == 4 && b == 0) = false := by simp only [Bool.and_eq_false_iff, beq_eq_false_iff_ne]; omega
          have e1 : doOk op a b = true := by rw [do_can ha hb, can_parts, h1, hq]; rfl
          have e2 : doF op a b = wrapF (rawF op a b) := by simp [doF, e1]
          rw [e1, e2]
          clear e1 e2
          have HZ : Hid (¬ (op = 4 ∧ b = 0)) := hz
          clear hz
          by_cases h4 : op = 4
          · subst h4
            have hb0 : (b == 0) = false := by simpa using hq
            have hz' : ¬ b = 0 := by simpa using hb0
            clear hq HZ
            go_enter Try.func17, Try.ntmps17
            go_wp2_with (first | (go_at_call 38; refine (l6In_any _ _ _ _).mono ?_; rintro e w' ⟨rfl, rfl⟩) | (go_at_call 39; refine (l1Word_any _ _).mono ?_; rintro e w' ⟨rfl, rfl⟩) | (go_at_call 40; refine (raw_spec _ _ _ _ ha1 ha2 hb1 hb2 (fun h => hz' h.2)).mono ?_; rintro e w' ⟨rfl, rfl⟩) | (go_at_call 15; refine (wrap_spec _ _).mono ?_; rintro e w' ⟨rfl, rfl⟩))
            go_ret2
            exact ⟨rfl, rfl⟩
          · have hb4 : (op == 4) = false := by simp [h4]
            clear hq h4
            go_enter Try.func17, Try.ntmps17
            go_wp2_with (first | (go_at_call 38; refine (l6In_any _ _ _ _).mono ?_; rintro e w' ⟨rfl, rfl⟩) | (go_at_call 39; refine (l1Word_any _ _).mono ?_; rintro e w' ⟨rfl, rfl⟩) | (go_at_call 40; refine (raw_spec _ _ _ _ ha1 ha2 hb1 hb2 HZ).mono ?_; rintro e w' ⟨rfl, rfl⟩) | (go_at_call 15; refine (wrap_spec _ _).mono ?_; rintro e w' ⟨rfl, rfl⟩))
            go_ret2
            exact ⟨rfl, rfl⟩

end Go.Proofs.Ytkdlfojjfionkaa
