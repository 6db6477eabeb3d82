import Derived.Test.YtbjegekfghihkaaB10
/-
  The contract of the model's ProgOk, whatever the program.
-/
namespace Go.Proofs.Ytbjegekfghihkaa
open Go.RowKit
set_option linter.unusedVariables false
set_option linter.unusedSimpArgs false

theorem progOkF_in {P : List (List I4)} (h1 : 1 ≤ P.length) (h4 : P.length ≤ 4) : progOkF P = P.all fun c => codeOkF c P.length := by
  simp [progOkF, h1, h4]
theorem progOkF_out {P : List (List I4)} (h : P.length = 0 ∨ 4 < P.length) : progOkF P = false := by
  unfold progOkF
  rw [show decide (1 ≤ P.length ∧ P.length ≤ 4) = false from decide_eq_false (by omega)]
  rfl

set_option maxHeartbeats 1000000 in
theorem progOk_spec (x : World) (B : Nat) (v : Value) (P : List (List I4)) (h : ProgAt x B v P) :
    Calls Try.prog 49 #[v] x fun e y => e = .returned (.bool (progOkF P)) ∧ Below x.heap.size x y := by
  by_cases hr : 1 ≤ P.length ∧ P.length ≤ 4
  · rw [progOkF_in hr.1 hr.2]
    exact progOk_spec_in x B v P h hr.1 hr.2
  · rw [progOkF_out (by omega)]
    obtain ⟨p, cap, rfl, hm, _⟩ := h
    have hin : inI P.length 1 4 = false := by simp [inI]; omega
    generalize P.length = n at *
    unfold maxLen at hm
    have hni : (n : Int) ≤ 9223372036854775807 := by omega
    clear hr hm
    go_enter Try.func49, Try.ntmps49
    go_wp2_with (go_at_call 50; refine (l6In_e _ _ _ _).mono ?_; rintro e w' ⟨rfl, hw'⟩; have hw2 := hw'.symm; subst hw2)
    go_ret
    exact ⟨rfl, Below.refl _ _⟩

end Go.Proofs.Ytbjegekfghihkaa

/-
  The contracts of the program's small tests on numbers of instructions, and of what each kind of instruction asks of its numbers (fits).
-/
namespace Go.Proofs.Ytbjegekfghihkaa
open Go.RowKit
set_option linter.unusedVariables false
set_option linter.unusedSimpArgs false

theorem isReg_any (n : Int) (w : World) : Calls Try.prog 79 #[.int .i64 n] w fun e w' => e = .returned (.bool (inI n 0 2)) ∧ w' = w := by
  by_cases h1 : 0 ≤ n
  · by_cases h2 : n < 3
    · go_enter Try.func79, Try.ntmps79
      go_wp2
      go_ret
      exact ⟨retBool (by simp [inI]; omega), rfl⟩
    · go_enter Try.func79, Try.ntmps79
      go_wp2
      go_ret
      exact ⟨retBool (by simp [inI]; omega), rfl⟩
  · go_enter Try.func79, Try.ntmps79
    go_wp2
    go_ret
    exact ⟨retBool (by simp [inI]; omega), rfl⟩

theorem isOp_any (n : Int) (w : World) : Calls Try.prog 133 #[.int .i64 n] w fun e w' => e = .returned (.bool (inI n 1 6)) ∧ w' = w := by
  by_cases h1 : 1 ≤ n
  · by_cases h2 : n ≤ 6
    · go_enter Try.func133, Try.ntmps133
      go_wp2
      go_ret
      exact ⟨retBool (by simp [inI]; omega), rfl⟩
    · go_enter Try.func133, Try.ntmps133
      go_wp2
      go_ret
      exact ⟨retBool (by simp [inI]; omega), rfl⟩
  · go_enter Try.func133, Try.ntmps133
    go_wp2
    go_ret
    exact ⟨retBool (by simp [inI]; omega), rfl⟩

theorem isWord_e (n : Int) (w : World) : Calls Try.prog 77 #[.int .i64 n] w fun e w' => e = .returned (.bool (inI n (-16) 15)) ∧ w' = w := by
  by_cases h1 : -16 ≤ n
  · by_cases h2 : n ≤ 15
    · go_enter Try.func77, Try.ntmps77
      go_wp2
      go_ret
      exact ⟨retBool (by simp [inI]; omega), rfl⟩
    · go_enter Try.func77, Try.ntmps77
      go_wp2
      go_ret
      exact ⟨retBool (by simp [inI]; omega), rfl⟩
  · go_enter Try.func77, Try.ntmps77
    go_wp2
    go_ret
    exact ⟨retBool (by simp [inI]; omega), rfl⟩

theorem areRegs_any (a b : Int) (w : World) : Calls Try.prog 123 #[.int .i64 a, .int .i64 b] w fun e w' => e = .returned (.bool (inI a 0 2 && inI b 0 2)) ∧ w' = w := by
  cases g1 : inI a 0 2
  · go_enter Try.func123, Try.ntmps123
    go_wp2_with (go_at_call 79; refine (isReg_any _ _).mono ?_; rintro e w' ⟨rfl, rfl⟩)
    go_ret
    exact ⟨retBool (by simp), rfl⟩
  · go_enter Try.func123, Try.ntmps123
    go_wp2_with (go_at_call 79; refine (isReg_any _ _).mono ?_; rintro e w' ⟨rfl, rfl⟩)
    go_ret
    exact ⟨retBool (by simp), rfl⟩

set_option maxHeartbeats 400000 in
theorem hasPlace_any (p q n : Int) (w : World) : Calls Try.prog 62 #[.agg #[.int .i64 p, .int .i64 q], .int .i64 n] w fun e w' => e = .returned (.bool (inI n 0 q)) ∧ Below w.heap.size w w' := by
  by_cases h1 : 0 ≤ n
  · by_cases h2 : n ≤ q
    · go_enter Try.func62, Try.ntmps62
      go_wp2
      go_ret
      exact ⟨retBool (by simp [inI]; omega), by go_grown⟩
    · go_enter Try.func62, Try.ntmps62
      go_wp2
      go_ret
      exact ⟨retBool (by simp [inI]; omega), by go_grown⟩
  · go_enter Try.func62, Try.ntmps62
    go_wp2
    go_ret
    exact ⟨retBool (by simp [inI]; omega), by go_grown⟩

set_option maxHeartbeats 400000 in
theorem hasProc_any (p q n : Int) (w : World) : Calls Try.prog 76 #[.agg #[.int .i64 p, .int .i64 q], .int .i64 n] w fun e w' => e = .returned (.bool (inI n 0 (p - 1))) ∧ Below w.heap.size w w' := by
  by_cases h1 : 0 ≤ n
  · by_cases h2 : n < p
    · go_enter Try.func76, Try.ntmps76
      go_wp2
      go_ret
      exact ⟨retBool (by simp [inI]; omega), by go_grown⟩
    · go_enter Try.func76, Try.ntmps76
      go_wp2
      go_ret
      exact ⟨retBool (by simp [inI]; omega), by go_grown⟩
  · go_enter Try.func76, Try.ntmps76
    go_wp2
    go_ret
    exact ⟨retBool (by simp [inI]; omega), by go_grown⟩

set_option maxHeartbeats 400000 in
theorem set_fits (a b p q : Int) (w : World) : Calls Try.prog 127 #[.agg #[.int .i64 a, .int .i64 b], .agg #[.int .i64 p, .int .i64 q]] w fun e w' => e = .returned (.bool (inI a 0 2 && inI b (-16) 15)) ∧ Below w.heap.size w w' := by
  cases g1 : inI a 0 2
  · go_enter Try.func127, Try.ntmps127
    go_wp2_with (first | (go_at_call 79; refine (isReg_any _ _).mono ?_; rintro e w' ⟨rfl, rfl⟩) | (go_at_call 133; refine (isOp_any _ _).mono ?_; rintro e w' ⟨rfl, rfl⟩) | (go_at_call 77; refine (isWord_e _ _).mono ?_; rintro e w' ⟨rfl, rfl⟩) | (go_at_call 123; refine (areRegs_any _ _ _).mono ?_; rintro e w' ⟨rfl, rfl⟩) | (go_at_call 62; refine (hasPlace_any _ _ _ _).mono ?_; rintro e w1 ⟨rfl, hb⟩) | (go_at_call 76; refine (hasProc_any _ _ _ _).mono ?_; rintro e w1 ⟨rfl, hb⟩))
    go_ret
    exact ⟨retBool (by first | rfl | (simp; done) | (simp [*]; done)), by first | exact Below.trans (by go_grown) (hb.mono (by go_size)) | go_grown⟩
  · go_enter Try.func127, Try.ntmps127
    go_wp2_with (first | (go_at_call 79; refine (isReg_any _ _).mono ?_; rintro e w' ⟨rfl, rfl⟩) | (go_at_call 133; refine (isOp_any _ _).mono ?_; rintro e w' ⟨rfl, rfl⟩) | (go_at_call 77; refine (isWord_e _ _).mono ?_; rintro e w' ⟨rfl, rfl⟩) | (go_at_call 123; refine (areRegs_any _ _ _).mono ?_; rintro e w' ⟨rfl, rfl⟩) | (go_at_call 62; refine (hasPlace_any _ _ _ _).mono ?_; rintro e w1 ⟨rfl, hb⟩) | (go_at_call 76; refine (hasProc_any _ _ _ _).mono ?_; rintro e w1 ⟨rfl, hb⟩))
    go_ret
    exact ⟨retBool (by first | rfl | (simp; done) | (simp [*]; done)), by first | exact Below.trans (by go_grown) (hb.mono (by go_size)) | go_grown⟩

set_option maxHeartbeats 400000 in
theorem move_fits (a b p q : Int) (w : World) : Calls Try.prog 129 #[.agg #[.int .i64 a, .int .i64 b], .agg #[.int .i64 p, .int .i64 q]] w fun e w' => e = .returned (.bool ((inI a 0 2 && inI b 0 2))) ∧ Below w.heap.size w w' := by
  go_enter Try.func129, Try.ntmps129
  go_wp2_with (first | (go_at_call 79; refine (isReg_any _ _).mono ?_; rintro e w' ⟨rfl, rfl⟩) | (go_at_call 133; refine (isOp_any _ _).mono ?_; rintro e w' ⟨rfl, rfl⟩) | (go_at_call 77; refine (isWord_e _ _).mono ?_; rintro e w' ⟨rfl, rfl⟩) | (go_at_call 123; refine (areRegs_any _ _ _).mono ?_; rintro e w' ⟨rfl, rfl⟩) | (go_at_call 62; refine (hasPlace_any _ _ _ _).mono ?_; rintro e w1 ⟨rfl, hb⟩) | (go_at_call 76; refine (hasProc_any _ _ _ _).mono ?_; rintro e w1 ⟨rfl, hb⟩))
  go_ret
  exact ⟨retBool (by first | rfl | (simp; done) | (simp [*]; done)), by first | exact Below.trans (by go_grown) (hb.mono (by go_size)) | go_grown⟩

set_option maxHeartbeats 400000 in
theorem ask_fits (a b p q : Int) (w : World) : Calls Try.prog 124 #[.agg #[.int .i64 a, .int .i64 b], .agg #[.int .i64 p, .int .i64 q]] w fun e w' => e = .returned (.bool (inI a 0 2 && inI b (-16) 15 && decide (0 ≤ b))) ∧ Below w.heap.size w w' := by
  cases g1 : inI a 0 2
  · go_enter Try.func124, Try.ntmps124
    go_wp2_with (first | (go_at_call 79; refine (isReg_any _ _).mono ?_; rintro e w' ⟨rfl, rfl⟩) | (go_at_call 133; refine (isOp_any _ _).mono ?_; rintro e w' ⟨rfl, rfl⟩) | (go_at_call 77; refine (isWord_e _ _).mono ?_; rintro e w' ⟨rfl, rfl⟩) | (go_at_call 123; refine (areRegs_any _ _ _).mono ?_; rintro e w' ⟨rfl, rfl⟩) | (go_at_call 62; refine (hasPlace_any _ _ _ _).mono ?_; rintro e w1 ⟨rfl, hb⟩) | (go_at_call 76; refine (hasProc_any _ _ _ _).mono ?_; rintro e w1 ⟨rfl, hb⟩))
    go_ret
    exact ⟨retBool (by first | rfl | (simp; done) | (simp [*]; done)), by first | exact Below.trans (by go_grown) (hb.mono (by go_size)) | go_grown⟩
  · cases g2 : inI b (-16) 15
    · go_enter Try.func124, Try.ntmps124
      go_wp2_with (first | (go_at_call 79; refine (isReg_any _ _).mono ?_; rintro e w' ⟨rfl, rfl⟩) | (go_at_call 133; refine (isOp_any _ _).mono ?_; rintro e w' ⟨rfl, rfl⟩) | (go_at_call 77; refine (isWord_e _ _).mono ?_; rintro e w' ⟨rfl, rfl⟩) | (go_at_call 123; refine (areRegs_any _ _ _).mono ?_; rintro e w' ⟨rfl, rfl⟩) | (go_at_call 62; refine (hasPlace_any _ _ _ _).mono ?_; rintro e w1 ⟨rfl, hb⟩) | (go_at_call 76; refine (hasProc_any _ _ _ _).mono ?_; rintro e w1 ⟨rfl, hb⟩))
      go_ret
      exact ⟨retBool (by first | rfl | (simp; done) | (simp [*]; done)), by first | exact Below.trans (by go_grown) (hb.mono (by go_size)) | go_grown⟩
    · go_enter Try.func124, Try.ntmps124
      go_wp2_with (first | (go_at_call 79; refine (isReg_any _ _).mono ?_; rintro e w' ⟨rfl, rfl⟩) | (go_at_call 133; refine (isOp_any _ _).mono ?_; rintro e w' ⟨rfl, rfl⟩) | (go_at_call 77; refine (isWord_e _ _).mono ?_; rintro e w' ⟨rfl, rfl⟩) | (go_at_call 123; refine (areRegs_any _ _ _).mono ?_; rintro e w' ⟨rfl, rfl⟩) | (go_at_call 62; refine (hasPlace_any _ _ _ _).mono ?_; rintro e w1 ⟨rfl, hb⟩) | (go_at_call 76; refine (hasProc_any _ _ _ _).mono ?_; rintro e w1 ⟨rfl, hb⟩))
      go_ret
      exact ⟨retBool (by first | rfl | (simp; done) | (simp [*]; done)), by first | exact Below.trans (by go_grown) (hb.mono (by go_size)) | go_grown⟩

set_option maxHeartbeats 400000 in
theorem do_fits (a b c p q : Int) (w : World) : Calls Try.prog 131 #[.agg #[.int .i64 a, .int .i64 b, .int .i64 c], .agg #[.int .i64 p, .int .i64 q]] w fun e w' => e = .returned (.bool ((inI a 0 2 && inI b 0 2) && inI c 1 6)) ∧ Below w.heap.size w w' := by
  cases g1 : (inI a 0 2 && inI b 0 2)
  · go_enter Try.func131, Try.ntmps131
    go_wp2_with (first | (go_at_call 79; refine (isReg_any _ _).mono ?_; rintro e w' ⟨rfl, rfl⟩) | (go_at_call 133; refine (isOp_any _ _).mono ?_; rintro e w' ⟨rfl, rfl⟩) | (go_at_call 77; refine (isWord_e _ _).mono ?_; rintro e w' ⟨rfl, rfl⟩) | (go_at_call 123; refine (areRegs_any _ _ _).mono ?_; rintro e w' ⟨rfl, rfl⟩) | (go_at_call 62; refine (hasPlace_any _ _ _ _).mono ?_; rintro e w1 ⟨rfl, hb⟩) | (go_at_call 76; refine (hasProc_any _ _ _ _).mono ?_; rintro e w1 ⟨rfl, hb⟩))
    go_ret
    exact ⟨retBool (by first | rfl | (simp; done) | (simp [*]; done)), by first | exact Below.trans (by go_grown) (hb.mono (by go_size)) | go_grown⟩
  · go_enter Try.func131, Try.ntmps131
    go_wp2_with (first | (go_at_call 79; refine (isReg_any _ _).mono ?_; rintro e w' ⟨rfl, rfl⟩) | (go_at_call 133; refine (isOp_any _ _).mono ?_; rintro e w' ⟨rfl, rfl⟩) | (go_at_call 77; refine (isWord_e _ _).mono ?_; rintro e w' ⟨rfl, rfl⟩) | (go_at_call 123; refine (areRegs_any _ _ _).mono ?_; rintro e w' ⟨rfl, rfl⟩) | (go_at_call 62; refine (hasPlace_any _ _ _ _).mono ?_; rintro e w1 ⟨rfl, hb⟩) | (go_at_call 76; refine (hasProc_any _ _ _ _).mono ?_; rintro e w1 ⟨rfl, hb⟩))
    go_ret
    exact ⟨retBool (by first | rfl | (simp; done) | (simp [*]; done)), by first | exact Below.trans (by go_grown) (hb.mono (by go_size)) | go_grown⟩

set_option maxHeartbeats 400000 in
theorem go_fits (c p q : Int) (w : World) : Calls Try.prog 134 #[.agg #[.int .i64 c], .agg #[.int .i64 p, .int .i64 q]] w fun e w' => e = .returned (.bool (inI c 0 q)) ∧ Below w.heap.size w w' := by
  go_enter Try.func134, Try.ntmps134
  go_wp2_with (first | (go_at_call 79; refine (isReg_any _ _).mono ?_; rintro e w' ⟨rfl, rfl⟩) | (go_at_call 133; refine (isOp_any _ _).mono ?_; rintro e w' ⟨rfl, rfl⟩) | (go_at_call 77; refine (isWord_e _ _).mono ?_; rintro e w' ⟨rfl, rfl⟩) | (go_at_call 123; refine (areRegs_any _ _ _).mono ?_; rintro e w' ⟨rfl, rfl⟩) | (go_at_call 62; refine (hasPlace_any _ _ _ _).mono ?_; rintro e w1 ⟨rfl, hb⟩) | (go_at_call 76; refine (hasProc_any _ _ _ _).mono ?_; rintro e w1 ⟨rfl, hb⟩))
  go_ret
  exact ⟨retBool (by first | rfl | (simp; done) | (simp [*]; done)), by first | exact Below.trans (by go_grown) (hb.mono (by go_size)) | go_grown⟩

set_option maxHeartbeats 400000 in
theorem less_fits (a b c p q : Int) (w : World) : Calls Try.prog 136 #[.agg #[.int .i64 a, .int .i64 b, .int .i64 c], .agg #[.int .i64 p, .int .i64 q]] w fun e w' => e = .returned (.bool ((inI a 0 2 && inI b 0 2) && inI c 0 q)) ∧ Below w.heap.size w w' := by
  cases g1 : (inI a 0 2 && inI b 0 2)
  · go_enter Try.func136, Try.ntmps136
    go_wp2_with (first | (go_at_call 79; refine (isReg_any _ _).mono ?_; rintro e w' ⟨rfl, rfl⟩) | (go_at_call 133; refine (isOp_any _ _).mono ?_; rintro e w' ⟨rfl, rfl⟩) | (go_at_call 77; refine (isWord_e _ _).mono ?_; rintro e w' ⟨rfl, rfl⟩) | (go_at_call 123; refine (areRegs_any _ _ _).mono ?_; rintro e w' ⟨rfl, rfl⟩) | (go_at_call 62; refine (hasPlace_any _ _ _ _).mono ?_; rintro e w1 ⟨rfl, hb⟩) | (go_at_call 76; refine (hasProc_any _ _ _ _).mono ?_; rintro e w1 ⟨rfl, hb⟩))
    go_ret
    exact ⟨retBool (by first | rfl | (simp; done) | (simp [*]; done)), by first | exact Below.trans (by go_grown) (hb.mono (by go_size)) | go_grown⟩
  · go_enter Try.func136, Try.ntmps136
    go_wp2_with (first | (go_at_call 79; refine (isReg_any _ _).mono ?_; rintro e w' ⟨rfl, rfl⟩) | (go_at_call 133; refine (isOp_any _ _).mono ?_; rintro e w' ⟨rfl, rfl⟩) | (go_at_call 77; refine (isWord_e _ _).mono ?_; rintro e w' ⟨rfl, rfl⟩) | (go_at_call 123; refine (areRegs_any _ _ _).mono ?_; rintro e w' ⟨rfl, rfl⟩) | (go_at_call 62; refine (hasPlace_any _ _ _ _).mono ?_; rintro e w1 ⟨rfl, hb⟩) | (go_at_call 76; refine (hasProc_any _ _ _ _).mono ?_; rintro e w1 ⟨rfl, hb⟩))
    go_ret
    exact ⟨retBool (by first | rfl | (simp; done) | (simp [*]; done)), by first | exact Below.trans (by go_grown) (hb.mono (by go_size)) | go_grown⟩

set_option maxHeartbeats 400000 in
theorem same_fits (a b c p q : Int) (w : World) : Calls Try.prog 138 #[.agg #[.int .i64 a, .int .i64 b, .int .i64 c], .agg #[.int .i64 p, .int .i64 q]] w fun e w' => e = .returned (.bool ((inI a 0 2 && inI b 0 2) && inI c 0 q)) ∧ Below w.heap.size w w' := by
  cases g1 : (inI a 0 2 && inI b 0 2)
  · go_enter Try.func138, Try.ntmps138
    go_wp2_with (first | (go_at_call 79; refine (isReg_any _ _).mono ?_; rintro e w' ⟨rfl, rfl⟩) | (go_at_call 133; refine (isOp_any _ _).mono ?_; rintro e w' ⟨rfl, rfl⟩) | (go_at_call 77; refine (isWord_e _ _).mono ?_; rintro e w' ⟨rfl, rfl⟩) | (go_at_call 123; refine (areRegs_any _ _ _).mono ?_; rintro e w' ⟨rfl, rfl⟩) | (go_at_call 62; refine (hasPlace_any _ _ _ _).mono ?_; rintro e w1 ⟨rfl, hb⟩) | (go_at_call 76; refine (hasProc_any _ _ _ _).mono ?_; rintro e w1 ⟨rfl, hb⟩))
    go_ret
    exact ⟨retBool (by first | rfl | (simp; done) | (simp [*]; done)), by first | exact Below.trans (by go_grown) (hb.mono (by go_size)) | go_grown⟩
  · go_enter Try.func138, Try.ntmps138
    go_wp2_with (first | (go_at_call 79; refine (isReg_any _ _).mono ?_; rintro e w' ⟨rfl, rfl⟩) | (go_at_call 133; refine (isOp_any _ _).mono ?_; rintro e w' ⟨rfl, rfl⟩) | (go_at_call 77; refine (isWord_e _ _).mono ?_; rintro e w' ⟨rfl, rfl⟩) | (go_at_call 123; refine (areRegs_any _ _ _).mono ?_; rintro e w' ⟨rfl, rfl⟩) | (go_at_call 62; refine (hasPlace_any _ _ _ _).mono ?_; rintro e w1 ⟨rfl, hb⟩) | (go_at_call 76; refine (hasProc_any _ _ _ _).mono ?_; rintro e w1 ⟨rfl, hb⟩))
    go_ret
    exact ⟨retBool (by first | rfl | (simp; done) | (simp [*]; done)), by first | exact Below.trans (by go_grown) (hb.mono (by go_size)) | go_grown⟩

set_option maxHeartbeats 400000 in
theorem call_fits (a b c p q : Int) (w : World) : Calls Try.prog 121 #[.agg #[.int .i64 a, .int .i64 b, .int .i64 c], .agg #[.int .i64 p, .int .i64 q]] w fun e w' => e = .returned (.bool ((inI a 0 2 && inI c 0 2) && inI b 0 (p - 1))) ∧ Below w.heap.size w w' := by
  cases g1 : (inI a 0 2 && inI c 0 2)
  · go_enter Try.func121, Try.ntmps121
    go_wp2_with (first | (go_at_call 79; refine (isReg_any _ _).mono ?_; rintro e w' ⟨rfl, rfl⟩) | (go_at_call 133; refine (isOp_any _ _).mono ?_; rintro e w' ⟨rfl, rfl⟩) | (go_at_call 77; refine (isWord_e _ _).mono ?_; rintro e w' ⟨rfl, rfl⟩) | (go_at_call 123; refine (areRegs_any _ _ _).mono ?_; rintro e w' ⟨rfl, rfl⟩) | (go_at_call 62; refine (hasPlace_any _ _ _ _).mono ?_; rintro e w1 ⟨rfl, hb⟩) | (go_at_call 76; refine (hasProc_any _ _ _ _).mono ?_; rintro e w1 ⟨rfl, hb⟩))
    go_ret
    exact ⟨retBool (by first | rfl | (simp; done) | (simp [*]; done)), by first | exact Below.trans (by go_grown) (hb.mono (by go_size)) | go_grown⟩
  · go_enter Try.func121, Try.ntmps121
    go_wp2_with (first | (go_at_call 79; refine (isReg_any _ _).mono ?_; rintro e w' ⟨rfl, rfl⟩) | (go_at_call 133; refine (isOp_any _ _).mono ?_; rintro e w' ⟨rfl, rfl⟩) | (go_at_call 77; refine (isWord_e _ _).mono ?_; rintro e w' ⟨rfl, rfl⟩) | (go_at_call 123; refine (areRegs_any _ _ _).mono ?_; rintro e w' ⟨rfl, rfl⟩) | (go_at_call 62; refine (hasPlace_any _ _ _ _).mono ?_; rintro e w1 ⟨rfl, hb⟩) | (go_at_call 76; refine (hasProc_any _ _ _ _).mono ?_; rintro e w1 ⟨rfl, hb⟩))
    go_ret
    exact ⟨retBool (by first | rfl | (simp; done) | (simp [*]; done)), by first | exact Below.trans (by go_grown) (hb.mono (by go_size)) | go_grown⟩

set_option maxHeartbeats 400000 in
theorem back_fits (a p q : Int) (w : World) : Calls Try.prog 140 #[.agg #[.int .i64 a], .agg #[.int .i64 p, .int .i64 q]] w fun e w' => e = .returned (.bool (inI a 0 2)) ∧ Below w.heap.size w w' := by
  go_enter Try.func140, Try.ntmps140
  go_wp2_with (first | (go_at_call 79; refine (isReg_any _ _).mono ?_; rintro e w' ⟨rfl, rfl⟩) | (go_at_call 133; refine (isOp_any _ _).mono ?_; rintro e w' ⟨rfl, rfl⟩) | (go_at_call 77; refine (isWord_e _ _).mono ?_; rintro e w' ⟨rfl, rfl⟩) | (go_at_call 123; refine (areRegs_any _ _ _).mono ?_; rintro e w' ⟨rfl, rfl⟩) | (go_at_call 62; refine (hasPlace_any _ _ _ _).mono ?_; rintro e w1 ⟨rfl, hb⟩) | (go_at_call 76; refine (hasProc_any _ _ _ _).mono ?_; rintro e w1 ⟨rfl, hb⟩))
  go_ret
  exact ⟨retBool (by first | rfl | (simp; done) | (simp [*]; done)), by first | exact Below.trans (by go_grown) (hb.mono (by go_size)) | go_grown⟩

set_option maxHeartbeats 400000 in
theorem hold_fits (a p q : Int) (w : World) : Calls Try.prog 142 #[.agg #[.int .i64 a], .agg #[.int .i64 p, .int .i64 q]] w fun e w' => e = .returned (.bool (inI a 0 2)) ∧ Below w.heap.size w w' := by
  go_enter Try.func142, Try.ntmps142
  go_wp2_with (first | (go_at_call 79; refine (isReg_any _ _).mono ?_; rintro e w' ⟨rfl, rfl⟩) | (go_at_call 133; refine (isOp_any _ _).mono ?_; rintro e w' ⟨rfl, rfl⟩) | (go_at_call 77; refine (isWord_e _ _).mono ?_; rintro e w' ⟨rfl, rfl⟩) | (go_at_call 123; refine (areRegs_any _ _ _).mono ?_; rintro e w' ⟨rfl, rfl⟩) | (go_at_call 62; refine (hasPlace_any _ _ _ _).mono ?_; rintro e w1 ⟨rfl, hb⟩) | (go_at_call 76; refine (hasProc_any _ _ _ _).mono ?_; rintro e w1 ⟨rfl, hb⟩))
  go_ret
  exact ⟨retBool (by first | rfl | (simp; done) | (simp [*]; done)), by first | exact Below.trans (by go_grown) (hb.mono (by go_size)) | go_grown⟩

set_option maxHeartbeats 400000 in
theorem put_fits (a b p q : Int) (w : World) : Calls Try.prog 144 #[.agg #[.int .i64 a, .int .i64 b], .agg #[.int .i64 p, .int .i64 q]] w fun e w' => e = .returned (.bool ((inI a 0 2 && inI b 0 2))) ∧ Below w.heap.size w w' := by
  go_enter Try.func144, Try.ntmps144
  go_wp2_with (first | (go_at_call 79; refine (isReg_any _ _).mono ?_; rintro e w' ⟨rfl, rfl⟩) | (go_at_call 133; refine (isOp_any _ _).mono ?_; rintro e w' ⟨rfl, rfl⟩) | (go_at_call 77; refine (isWord_e _ _).mono ?_; rintro e w' ⟨rfl, rfl⟩) | (go_at_call 123; refine (areRegs_any _ _ _).mono ?_; rintro e w' ⟨rfl, rfl⟩) | (go_at_call 62; refine (hasPlace_any _ _ _ _).mono ?_; rintro e w1 ⟨rfl, hb⟩) | (go_at_call 76; refine (hasProc_any _ _ _ _).mono ?_; rintro e w1 ⟨rfl, hb⟩))
  go_ret
  exact ⟨retBool (by first | rfl | (simp; done) | (simp [*]; done)), by first | exact Below.trans (by go_grown) (hb.mono (by go_size)) | go_grown⟩

set_option maxHeartbeats 400000 in
theorem get_fits (a b p q : Int) (w : World) : Calls Try.prog 146 #[.agg #[.int .i64 a, .int .i64 b], .agg #[.int .i64 p, .int .i64 q]] w fun e w' => e = .returned (.bool ((inI a 0 2 && inI b 0 2))) ∧ Below w.heap.size w w' := by
  go_enter Try.func146, Try.ntmps146
  go_wp2_with (first | (go_at_call 79; refine (isReg_any _ _).mono ?_; rintro e w' ⟨rfl, rfl⟩) | (go_at_call 133; refine (isOp_any _ _).mono ?_; rintro e w' ⟨rfl, rfl⟩) | (go_at_call 77; refine (isWord_e _ _).mono ?_; rintro e w' ⟨rfl, rfl⟩) | (go_at_call 123; refine (areRegs_any _ _ _).mono ?_; rintro e w' ⟨rfl, rfl⟩) | (go_at_call 62; refine (hasPlace_any _ _ _ _).mono ?_; rintro e w1 ⟨rfl, hb⟩) | (go_at_call 76; refine (hasProc_any _ _ _ _).mono ?_; rintro e w1 ⟨rfl, hb⟩))
  go_ret
  exact ⟨retBool (by first | rfl | (simp; done) | (simp [*]; done)), by first | exact Below.trans (by go_grown) (hb.mono (by go_size)) | go_grown⟩

end Go.Proofs.Ytbjegekfghihkaa
