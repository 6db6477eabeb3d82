import Derived.Test.YtbjegekfghihkaaB4
/-
  The contracts of the program's small tests on numbers of instructions, and of what each kind of instruction asks of its numbers (fits).
-/
namespace Go.Proofs.Ytbjegekfghihkaa
open Go.RowKit
set_option linter.unusedVariables false
set_option linter.unusedSimpArgs false

theorem isReg_any (n : Int) (w : World) : Calls Try.prog 79 #[.int .i64 n] w fun e w' => e = .returned (.bool (inI n 0 2)) ∧ w' = w := by
  by_cases h1 : 0 ≤ n
  · by_cases h2 : n < 3
    · go_enter Try.func79, Try.ntmps79
      go_wp2
      go_ret
      exact ⟨retBool (by simp [inI]; omega), rfl⟩
    · go_enter Try.func79, Try.ntmps79
      go_wp2
      go_ret
      exact ⟨retBool (by simp [inI]; omega), rfl⟩
  · go_enter Try.func79, Try.ntmps79
    go_wp2
    go_ret
    exact ⟨retBool (by simp [inI]; omega), rfl⟩

theorem isOp_any (n : Int) (w : World) : Calls Try.prog 133 #[.int .i64 n] w fun e w' => e = .returned (.bool (inI n 1 6)) ∧ w' = w := by
  by_cases h1 : 1 ≤ n
  · by_cases h2 : n ≤ 6
    · go_enter Try.func133, Try.ntmps133
      go_wp2
      go_ret
      exact ⟨retBool (by simp [inI]; omega), rfl⟩
    · go_enter Try.func133, Try.ntmps133
      go_wp2
      go_ret
      exact ⟨retBool (by simp [inI]; omega), rfl⟩
  · go_enter Try.func133, Try.ntmps133
    go_wp2
    go_ret
    exact ⟨retBool (by simp [inI]; omega), rfl⟩

theorem isWord_e (n : Int) (w : World) : Calls Try.prog 77 #[.int .i64 n] w fun e w' => e = .returned (.bool (inI n (-16) 15)) ∧ w' = w := by
  by_cases h1 : -16 ≤ n
  · by_cases h2 : n ≤ 15
    · go_enter Try.func77, Try.ntmps77
      go_wp2
      go_ret
      exact ⟨retBool (by simp [inI]; omega), rfl⟩
    · go_enter Try.func77, Try.ntmps77
      go_wp2
      go_ret
      exact ⟨retBool (by simp [inI]; omega), rfl⟩
  · go_enter Try.func77, Try.ntmps77
    go_wp2
    go_ret
    exact ⟨retBool (by simp [inI]; omega), rfl⟩

theorem areRegs_any (a b : Int) (w : World) : Calls Try.prog 123 #[.int .i64 a, .int .i64 b] w fun e w' => e = .returned (.bool (inI a 0 2 && inI b 0 2)) ∧ w' = w := by
  cases g1 : inI a 0 2
  · go_enter Try.func123, Try.ntmps123
    go_wp2_with (go_at_call 79; refine (isReg_any _ _).mono ?_; rintro e w' ⟨rfl, rfl⟩)
    go_ret
    exact ⟨retBool (by simp), rfl⟩
  · go_enter Try.func123, Try.ntmps123
    go_wp2_with (go_at_call 79; refine (isReg_any _ _).mono ?_; rintro e w' ⟨rfl, rfl⟩)
    go_ret
    exact ⟨retBool (by simp), rfl⟩

set_option maxHeartbeats 400000 in
theorem hasPlace_any (p q n : Int) (w : World) : Calls Try.prog 62 #[.agg #[.int .i64 p, .int .i64 q], .int .i64 n] w fun e w' => e = .returned (.bool (inI n 0 q)) ∧ Below w.heap.size w w' := by
  by_cases h1 : 0 ≤ n
  · by_cases h2 : n ≤ q
    · go_enter Try.func62, Try.ntmps62
      go_wp2
      go_ret
      exact ⟨retBool (by simp [inI]; omega), by go_grown⟩
    · go_enter Try.func62, Try.ntmps62
      go_wp2
      go_ret
      exact ⟨retBool (by simp [inI]; omega), by go_grown⟩
  · go_enter Try.func62, Try.ntmps62
    go_wp2
    go_ret
    exact ⟨retBool (by simp [inI]; omega), by go_grown⟩

set_option maxHeartbeats 400000 in
theorem hasProc_any (p q n : Int) (w : World) : Calls Try.prog 76 #[.agg #[.int .i64 p, .int .i64 q], .int .i64 n] w fun e w' => e = .returned (.bool (inI n 0 (p - 1))) ∧ Below w.heap.size w w' := by
  by_cases h1 : 0 ≤ n
  · by_cases h2 : n < p
    · go_enter Try.func76, Try.ntmps76
      go_wp2
      go_ret
      exact ⟨retBool (by simp [inI]; omega), by go_grown⟩
    · go_enter Try.func76, Try.ntmps76
      go_wp2
      go_ret
      exact ⟨retBool (by simp [inI]; omega), by go_grown⟩
  · go_enter Try.func76, Try.ntmps76
    go_wp2
    go_ret
    exact ⟨retBool (by simp [inI]; omega), by go_grown⟩

set_option maxHeartbeats 400000 in
theorem set_fits (a b p q : Int) (w : World) : Calls Try.prog 127 #[.agg #[.int .i64 a, .int .i64 b], .agg #[.int .i64 p, .int .i64 q]] w fun e w' => e = .returned (.bool (inI a 0 2 && inI b (-16) 15)) ∧ Below w.heap.size w w' := by
  cases g1 : inI a 0 2
  · go_enter Try.func127, Try.ntmps127
    go_wp2_with (first | (go_at_call 79; refine (isReg_any _ _).mono ?_; rintro e w' ⟨rfl, rfl⟩) | (go_at_call 133; refine (isOp_any _ _).mono ?_; rintro e w' ⟨rfl, rfl⟩) | (go_at_call 77; refine (isWord_e _ _).mono ?_; rintro e w' ⟨rfl, rfl⟩) | (go_at_call 123; refine (areRegs_any _ _ _).mono ?_; rintro e w' ⟨rfl, rfl⟩) | (go_at_call 62; refine (hasPlace_any _ _ _ _).mono ?_; rintro e w1 ⟨rfl, hb⟩) | (go_at_call 76; refine (hasProc_any _ _ _ _).mono ?_; rintro e w1 ⟨rfl, hb⟩))
    go_ret
    exact ⟨retBool (by first | rfl | (simp; done) | (simp [*]; done)), by first | exact Below.trans (by go_grown) (hb.mono (by go_size)) | go_grown⟩
  · go_enter Try.func127, Try.ntmps127
    go_wp2_with (first | (go_at_call 79; refine (isReg_any _ _).mono ?_; rintro e w' ⟨rfl, rfl⟩) | (go_at_call 133; refine (isOp_any _ _).mono ?_; rintro e w' ⟨rfl, rfl⟩) | (go_at_call 77; refine (isWord_e _ _).mono ?_; rintro e w' ⟨rfl, rfl⟩) | (go_at_call 123; refine (areRegs_any _ _ _).mono ?_; rintro e w' ⟨rfl, rfl⟩) | (go_at_call 62; refine (hasPlace_any _ _ _ _).mono ?_; rintro e w1 ⟨rfl, hb⟩) | (go_at_call 76; refine (hasProc_any _ _ _ _).mono ?_; rintro e w1 ⟨rfl, hb⟩))
    go_ret
    exact ⟨retBool (by first | rfl | (simp; done) | (simp [*]; done)), by first | exact Below.trans (by go_grown) (hb.mono (by go_size)) | go_grown⟩

set_option maxHeartbeats 400000 in
theorem move_fits (a b p q : Int) (w : World) : Calls Try.prog 129 #[.agg #[.int .i64 a, .int .i64 b], .agg #[.int .i64 p, .int .i64 q]] w fun e w' => e = .returned (.bool ((inI a 0 2 && inI b 0 2))) ∧ Below w.heap.size w w' := by
  go_enter Try.func129, Try.ntmps129
  go_wp2_with (first | (go_at_call 79; refine (isReg_any _ _).mono ?_; rintro e w' ⟨rfl, rfl⟩) | (go_at_call 133; refine (isOp_any _ _).mono ?_; rintro e w' ⟨rfl, rfl⟩) | (go_at_call 77; refine (isWord_e _ _).mono ?_; rintro e w' ⟨rfl, rfl⟩) | (go_at_call 123; refine (areRegs_any _ _ _).mono ?_; rintro e w' ⟨rfl, rfl⟩) | (go_at_call 62; refine (hasPlace_any _ _ _ _).mono ?_; rintro e w1 ⟨rfl, hb⟩) | (go_at_call 76; refine (hasProc_any _ _ _ _).mono ?_; rintro e w1 ⟨rfl, hb⟩))
  go_ret
  exact ⟨retBool (by first | rfl | (simp; done) | (simp [*]; done)), by first | exact Below.trans (by go_grown) (hb.mono (by go_size)) | go_grown⟩

set_option maxHeartbeats 400000 in
theorem ask_fits (a b p q : Int) (w : World) : Calls Try.prog 124 #[.agg #[.int .i64 a, .int .i64 b], .agg #[.int .i64 p, .int .i64 q]] w fun e w' => e = .returned (.bool (inI a 0 2 && inI b (-16) 15 && decide (0 ≤ b))) ∧ Below w.heap.size w w' := by
  cases g1 : inI a 0 2
  · go_enter Try.func124, Try.ntmps124
    go_wp2_with (first | (go_at_call 79; refine (isReg_any _ _).mono ?_; rintro e w' ⟨rfl, rfl⟩) | (go_at_call 133; refine (isOp_any _ _).mono ?_; rintro e w' ⟨rfl, rfl⟩) | (go_at_call 77; refine (isWord_e _ _).mono ?_; rintro e w' ⟨rfl, rfl⟩) | (go_at_call 123; refine (areRegs_any _ _ _).mono ?_; rintro e w' ⟨rfl, rfl⟩) | (go_at_call 62; refine (hasPlace_any _ _ _ _).mono ?_; rintro e w1 ⟨rfl, hb⟩) | (go_at_call 76; refine (hasProc_any _ _ _ _).mono ?_; rintro e w1 ⟨rfl, hb⟩))
    go_ret
    exact ⟨retBool (by first | rfl | (simp; done) | (simp [*]; done)), by first | exact Below.trans (by go_grown) (hb.mono (by go_size)) | go_grown⟩
  · cases g2 : inI b (-16) 15
    · go_enter Try.func124, Try.ntmps124
      go_wp2_with (first | (go_at_call 79; refine (isReg_any _ _).mono ?_; rintro e w' ⟨rfl, rfl⟩) | (go_at_call 133; refine (isOp_any _ _).mono ?_; rintro e w' ⟨rfl, rfl⟩) | (go_at_call 77; refine (isWord_e _ _).mono ?_; rintro e w' ⟨rfl, rfl⟩) | (go_at_call 123; refine (areRegs_any _ _ _).mono ?_; rintro e w' ⟨rfl, rfl⟩) | (go_at_call 62; refine (hasPlace_any _ _ _ _).mono ?_; rintro e w1 ⟨rfl, hb⟩) | (go_at_call 76; refine (hasProc_any _ _ _ _).mono ?_; rintro e w1 ⟨rfl, hb⟩))
      go_ret
      exact ⟨retBool (by first | rfl | (simp; done) | (simp [*]; done)), by first | exact Below.trans (by go_grown) (hb.mono (by go_size)) | go_grown⟩
    · go_enter Try.func124, Try.ntmps124
      go_wp2_with (first | (go_at_call 79; refine (isReg_any _ _).mono ?_; rintro e w' ⟨rfl, rfl⟩) | (go_at_call 133; refine (isOp_any _ _).mono ?_; rintro e w' ⟨rfl, rfl⟩) | (go_at_call 77; refine (isWord_e _ _).mono ?_; rintro e w' ⟨rfl, rfl⟩) | (go_at_call 123; refine (areRegs_any _ _ _).mono ?_; rintro e w' ⟨rfl, rfl⟩) | (go_at_call 62; refine (hasPlace_any _ _ _ _).mono ?_; rintro e w1 ⟨rfl, hb⟩) | (go_at_call 76; refine (hasProc_any _ _ _ _).mono ?_; rintro e w1 ⟨rfl, hb⟩))
      go_ret
      exact ⟨retBool (by first | rfl | (simp; done) | (simp [*]; done)), by first | exact Below.trans (by go_grown) (hb.mono (by go_size)) | go_grown⟩

set_option maxHeartbeats 400000 in
theorem do_fits (a b c p q : Int) (w : World) : Calls Try.prog 131 #[.agg #[.int .i64 a, .int .i64 b, .int .i64 c], .agg #[.int .i64 p, .int .i64 q]] w fun e w' => e = .returned (.bool ((inI a 0 2 && inI b 0 2) && inI c 1 6)) ∧ Below w.heap.size w w' := by
  cases g1 : (inI a 0 2 && inI b 0 2)
  · go_enter Try.func131, Try.ntmps131
    go_wp2_with (first | (go_at_call 79; refine (isReg_any _ _).mono ?_; rintro e w' ⟨rfl, rfl⟩) | (go_at_call 133; refine (isOp_any _ _).mono ?_; rintro e w' ⟨rfl, rfl⟩) | (go_at_call 77; refine (isWord_e _ _).mono ?_; rintro e w' ⟨rfl, rfl⟩) | (go_at_call 123; refine (areRegs_any _ _ _).mono ?_; rintro e w' ⟨rfl, rfl⟩) | (go_at_call 62; refine (hasPlace_any _ _ _ _).mono ?_; rintro e w1 ⟨rfl, hb⟩) | (go_at_call 76; refine (hasProc_any _ _ _ _).mono ?_; rintro e w1 ⟨rfl, hb⟩))
    go_ret
    exact ⟨retBool (by first | rfl | (simp; done) | (simp [*]; done)), by first | exact Below.trans (by go_grown) (hb.mono (by go_size)) | go_grown⟩
  · go_enter Try.func131, Try.ntmps131
    go_wp2_with (first | (go_at_call 79; refine (isReg_any _ _).mono ?_; rintro e w' ⟨rfl, rfl⟩) | (go_at_call 133; refine (isOp_any _ _).mono ?_; rintro e w' ⟨rfl, rfl⟩) | (go_at_call 77; refine (isWord_e _ _).mono ?_; rintro e w' ⟨rfl, rfl⟩) | (go_at_call 123; refine (areRegs_any _ _ _).mono ?_; rintro e w' ⟨rfl, rfl⟩) | (go_at_call 62; refine (hasPlace_any _ _ _ _).mono ?_; rintro e w1 ⟨rfl, hb⟩) | (go_at_call 76; refine (hasProc_any _ _ _ _).mono ?_; rintro e w1 ⟨rfl, hb⟩))
    go_ret
    exact ⟨retBool (by first | rfl | (simp; done) | (simp [*]; done)), by first | exact Below.trans (by go_grown) (hb.mono (by go_size)) | go_grown⟩

set_option maxHeartbeats 400000 in
theorem go_fits (c p q : Int) (w : World) : Calls Try.prog 134 #[.agg #[.int .i64 c], .agg #[.int .i64 p, .int .i64 q]] w fun e w' => e = .returned (.bool (inI c 0 q)) ∧ Below w.heap.size w w' := by
  go_enter Try.func134, Try.ntmps134
  go_wp2_with (first | (go_at_call 79; refine (isReg_any _ _).mono ?_; rintro e w' ⟨rfl, rfl⟩) | (go_at_call 133; refine (isOp_any _ _).mono ?_; rintro e w' ⟨rfl, rfl⟩) | (go_at_call 77; refine (isWord_e _ _).mono ?_; rintro e w' ⟨rfl, rfl⟩) | (go_at_call 123; refine (areRegs_any _ _ _).mono ?_; rintro e w' ⟨rfl, rfl⟩) | (go_at_call 62; refine (hasPlace_any _ _ _ _).mono ?_; rintro e w1 ⟨rfl, hb⟩) | (go_at_call 76; refine (hasProc_any _ _ _ _).mono ?_; rintro e w1 ⟨rfl, hb⟩))
  go_ret
  exact ⟨retBool (by first | rfl | (simp; done) | (simp [*]; done)), by first | exact Below.trans (by go_grown) (hb.mono (by go_size)) | go_grown⟩

set_option maxHeartbeats 400000 in
theorem less_fits (a b c p q : Int) (w : World) : Calls Try.prog 136 #[.agg #[.int .i64 a, .int .i64 b, .int .i64 c], .agg #[.int .i64 p, .int .i64 q]] w fun e w' => e = .returned (.bool ((inI a 0 2 && inI b 0 2) && inI c 0 q)) ∧ Below w.heap.size w w' := by
  cases g1 : (inI a 0 2 && inI b 0 2)
  · go_enter Try.func136, Try.ntmps136
    go_wp2_with (first | (go_at_call 79; refine (isReg_any _ _).mono ?_; rintro e w' ⟨rfl, rfl⟩) | (go_at_call 133; refine (isOp_any _ _).mono ?_; rintro e w' ⟨rfl, rfl⟩) | (go_at_call 77; refine (isWord_e _ _).mono ?_; rintro e w' ⟨rfl, rfl⟩) | (go_at_call 123; refine (areRegs_any _ _ _).mono ?_; rintro e w' ⟨rfl, rfl⟩) | (go_at_call 62; refine (hasPlace_any _ _ _ _).mono ?_; rintro e w1 ⟨rfl, hb⟩) | (go_at_call 76; refine (hasProc_any _ _ _ _).mono ?_; rintro e w1 ⟨rfl, hb⟩))
    go_ret
    exact ⟨retBool (by first | rfl | (simp; done) | (simp [*]; done)), by first | exact Below.trans (by go_grown) (hb.mono (by go_size)) | go_grown⟩
  · go_enter Try.func136, Try.ntmps136
    go_wp2_with (first | (go_at_call 79; refine (isReg_any _ _).mono ?_; rintro e w' ⟨rfl, rfl⟩) | (go_at_call 133; refine (isOp_any _ _).mono ?_; rintro e w' ⟨rfl, rfl⟩) | (go_at_call 77; refine (isWord_e _ _).mono ?_; rintro e w' ⟨rfl, rfl⟩) | (go_at_call 123; refine (areRegs_any _ _ _).mono ?_; rintro e w' ⟨rfl, rfl⟩) | (go_at_call 62; refine (hasPlace_any _ _ _ _).mono ?_; rintro e w1 ⟨rfl, hb⟩) | (go_at_call 76; refine (hasProc_any _ _ _ _).mono ?_; rintro e w1 ⟨rfl, hb⟩))
    go_ret
    exact ⟨retBool (by first | rfl | (simp; done) | (simp [*]; done)), by first | exact Below.trans (by go_grown) (hb.mono (by go_size)) | go_grown⟩

set_option maxHeartbeats 400000 in
theorem same_fits (a b c p q : Int) (w : World) : Calls Try.prog 138 #[.agg #[.int .i64 a, .int .i64 b, .int .i64 c], .agg #[.int .i64 p, .int .i64 q]] w fun e w' => e = .returned (.bool ((inI a 0 2 && inI b 0 2) && inI c 0 q)) ∧ Below w.heap.size w w' := by
  cases g1 : (inI a 0 2 && inI b 0 2)
  · go_enter Try.func138, Try.ntmps138
    go_wp2_with (first | (go_at_call 79; refine (isReg_any _ _).mono ?_; rintro e w' ⟨rfl, rfl⟩) | (go_at_call 133; refine (isOp_any _ _).mono ?_; rintro e w' ⟨rfl, rfl⟩) | (go_at_call 77; refine (isWord_e _ _).mono ?_; rintro e w' ⟨rfl, rfl⟩) | (go_at_call 123; refine (areRegs_any _ _ _).mono ?_; rintro e w' ⟨rfl, rfl⟩) | (go_at_call 62; refine (hasPlace_any _ _ _ _).mono ?_; rintro e w1 ⟨rfl, hb⟩) | (go_at_call 76; refine (hasProc_any _ _ _ _).mono ?_; rintro e w1 ⟨rfl, hb⟩))
    go_ret
    exact ⟨retBool (by first | rfl | (simp; done) | (simp [*]; done)), by first | exact Below.trans (by go_grown) (hb.mono (by go_size)) | go_grown⟩
  · go_enter Try.func138, Try.ntmps138
    go_wp2_with (first | (go_at_call 79; refine (isReg_any _ _).mono ?_; rintro e w' ⟨rfl, rfl⟩) | (go_at_call 133; refine (isOp_any _ _).mono ?_; rintro e w' ⟨rfl, rfl⟩) | (go_at_call 77; refine (isWord_e _ _).mono ?_; rintro e w' ⟨rfl, rfl⟩) | (go_at_call 123; refine (areRegs_any _ _ _).mono ?_; rintro e w' ⟨rfl, rfl⟩) | (go_at_call 62; refine (hasPlace_any _ _ _ _).mono ?_; rintro e w1 ⟨rfl, hb⟩) | (go_at_call 76; refine (hasProc_any _ _ _ _).mono ?_; rintro e w1 ⟨rfl, hb⟩))
    go_ret
    exact ⟨retBool (by first | rfl | (simp; done) | (simp [*]; done)), by first | exact Below.trans (by go_grown) (hb.mono (by go_size)) | go_grown⟩

set_option maxHeartbeats 400000 in
theorem call_fits (a b c p q : Int) (w : World) : Calls Try.prog 121 #[.agg #[.int .i64 a, .int .i64 b, .int .i64 c], .agg #[.int .i64 p, .int .i64 q]] w fun e w' => e = .returned (.bool ((inI a 0 2 && inI c 0 2) && inI b 0 (p - 1))) ∧ Below w.heap.size w w' := by
  cases g1 : (inI a 0 2 && inI c 0 2)
  · go_enter Try.func121, Try.ntmps121
    go_wp2_with (first | (go_at_call 79; refine (isReg_any _ _).mono ?_; rintro e w' ⟨rfl, rfl⟩) | (go_at_call 133; refine (isOp_any _ _).mono ?_; rintro e w' ⟨rfl, rfl⟩) | (go_at_call 77; refine (isWord_e _ _).mono ?_; rintro e w' ⟨rfl, rfl⟩) | (go_at_call 123; refine (areRegs_any _ _ _).mono ?_; rintro e w' ⟨rfl, rfl⟩) | (go_at_call 62; refine (hasPlace_any _ _ _ _).mono ?_; rintro e w1 ⟨rfl, hb⟩) | (go_at_call 76; refine (hasProc_any _ _ _ _).mono ?_; rintro e w1 ⟨rfl, hb⟩))
    go_ret
    exact ⟨retBool (by first | rfl | (simp; done) | (simp [*]; done)), by first | exact Below.trans (by go_grown) (hb.mono (by go_size)) | go_grown⟩
  · go_enter Try.func121, Try.ntmps121
    go_wp2_with (first | (go_at_call 79; refine (isReg_any _ _).mono ?_; rintro e w' ⟨rfl, rfl⟩) | (go_at_call 133; refine (isOp_any _ _).mono ?_; rintro e w' ⟨rfl, rfl⟩) | (go_at_call 77; refine (isWord_e _ _).mono ?_; rintro e w' ⟨rfl, rfl⟩) | (go_at_call 123; refine (areRegs_any _ _ _).mono ?_; rintro e w' ⟨rfl, rfl⟩) | (go_at_call 62; refine (hasPlace_any _ _ _ _).mono ?_; rintro e w1 ⟨rfl, hb⟩) | (go_at_call 76; refine (hasProc_any _ _ _ _).mono ?_; rintro e w1 ⟨rfl, hb⟩))
    go_ret
    exact ⟨retBool (by first | rfl | (simp; done) | (simp [*]; done)), by first | exact Below.trans (by go_grown) (hb.mono (by go_size)) | go_grown⟩

set_option maxHeartbeats 400000 in
theorem back_fits (a p q : Int) (w : World) : Calls Try.prog 140 #[.agg #[.int .i64 a], .agg #[.int .i64 p, .int .i64 q]] w fun e w' => e = .returned (.bool (inI a 0 2)) ∧ Below w.heap.size w w' := by
  go_enter Try.func140, Try.ntmps140
  go_wp2_with (first | (go_at_call 79; refine (isReg_any _ _).mono ?_; rintro e w' ⟨rfl, rfl⟩) | (go_at_call 133; refine (isOp_any _ _).mono ?_; rintro e w' ⟨rfl, rfl⟩) | (go_at_call 77; refine (isWord_e _ _).mono ?_; rintro e w' ⟨rfl, rfl⟩) | (go_at_call 123; refine (areRegs_any _ _ _).mono ?_; rintro e w' ⟨rfl, rfl⟩) | (go_at_call 62; refine (hasPlace_any _ _ _ _).mono ?_; rintro e w1 ⟨rfl, hb⟩) | (go_at_call 76; refine (hasProc_any _ _ _ _).mono ?_; rintro e w1 ⟨rfl, hb⟩))
  go_ret
  exact ⟨retBool (by first | rfl | (simp; done) | (simp [*]; done)), by first | exact Below.trans (by go_grown) (hb.mono (by go_size)) | go_grown⟩

set_option maxHeartbeats 400000 in
theorem hold_fits (a p q : Int) (w : World) : Calls Try.prog 142 #[.agg #[.int .i64 a], .agg #[.int .i64 p, .int .i64 q]] w fun e w' => e = .returned (.bool (inI a 0 2)) ∧ Below w.heap.size w w' := by
  go_enter Try.func142, Try.ntmps142
  go_wp2_with (first | (go_at_call 79; refine (isReg_any _ _).mono ?_; rintro e w' ⟨rfl, rfl⟩) | (go_at_call 133; refine (isOp_any _ _).mono ?_; rintro e w' ⟨rfl, rfl⟩) | (go_at_call 77; refine (isWord_e _ _).mono ?_; rintro e w' ⟨rfl, rfl⟩) | (go_at_call 123; refine (areRegs_any _ _ _).mono ?_; rintro e w' ⟨rfl, rfl⟩) | (go_at_call 62; refine (hasPlace_any _ _ _ _).mono ?_; rintro e w1 ⟨rfl, hb⟩) | (go_at_call 76; refine (hasProc_any _ _ _ _).mono ?_; rintro e w1 ⟨rfl, hb⟩))
  go_ret
  exact ⟨retBool (by first | rfl | (simp; done) | (simp [*]; done)), by first | exact Below.trans (by go_grown) (hb.mono (by go_size)) | go_grown⟩

set_option maxHeartbeats 400000 in
theorem put_fits (a b p q : Int) (w : World) : Calls Try.prog 144 #[.agg #[.int .i64 a, .int .i64 b], .agg #[.int .i64 p, .int .i64 q]] w fun e w' => e = .returned (.bool ((inI a 0 2 && inI b 0 2))) ∧ Below w.heap.size w w' := by
  go_enter Try.func144, Try.ntmps144
  go_wp2_with (first | (go_at_call 79; refine (isReg_any _ _).mono ?_; rintro e w' ⟨rfl, rfl⟩) | (go_at_call 133; refine (isOp_any _ _).mono ?_; rintro e w' ⟨rfl, rfl⟩) | (go_at_call 77; refine (isWord_e _ _).mono ?_; rintro e w' ⟨rfl, rfl⟩) | (go_at_call 123; refine (areRegs_any _ _ _).mono ?_; rintro e w' ⟨rfl, rfl⟩) | (go_at_call 62; refine (hasPlace_any _ _ _ _).mono ?_; rintro e w1 ⟨rfl, hb⟩) | (go_at_call 76; refine (hasProc_any _ _ _ _).mono ?_; rintro e w1 ⟨rfl, hb⟩))
  go_ret
  exact ⟨retBool (by first | rfl | (simp; done) | (simp [*]; done)), by first | exact Below.trans (by go_grown) (hb.mono (by go_size)) | go_grown⟩

set_option maxHeartbeats 400000 in
theorem get_fits (a b p q : Int) (w : World) : Calls Try.prog 146 #[.agg #[.int .i64 a, .int .i64 b], .agg #[.int .i64 p, .int .i64 q]] w fun e w' => e = .returned (.bool ((inI a 0 2 && inI b 0 2))) ∧ Below w.heap.size w w' := by
  go_enter Try.func146, Try.ntmps146
  go_wp2_with (first | (go_at_call 79; refine (isReg_any _ _).mono ?_; rintro e w' ⟨rfl, rfl⟩) | (go_at_call 133; refine (isOp_any _ _).mono ?_; rintro e w' ⟨rfl, rfl⟩) | (go_at_call 77; refine (isWord_e _ _).mono ?_; rintro e w' ⟨rfl, rfl⟩) | (go_at_call 123; refine (areRegs_any _ _ _).mono ?_; rintro e w' ⟨rfl, rfl⟩) | (go_at_call 62; refine (hasPlace_any _ _ _ _).mono ?_; rintro e w1 ⟨rfl, hb⟩) | (go_at_call 76; refine (hasProc_any _ _ _ _).mono ?_; rintro e w1 ⟨rfl, hb⟩))
  go_ret
  exact ⟨retBool (by first | rfl | (simp; done) | (simp [*]; done)), by first | exact Below.trans (by go_grown) (hb.mono (by go_size)) | go_grown⟩

end Go.Proofs.Ytbjegekfghihkaa

/-
  The contract of the program's instructionOf.
-/
namespace Go.Proofs.Ytbjegekfghihkaa
open Go.RowKit
set_option linter.unusedVariables false
set_option linter.unusedSimpArgs false

/-- what an instruction is behind its interface -/
def ifcF (i : I4) : Value :=
  let a := Value.int .i64 i.2.1
  let b := Value.int .i64 i.2.2.1
  let c := Value.int .i64 i.2.2.2
  if i.1 = 1 then .iface 133 (.agg #[a, b]) else if i.1 = 2 then .iface 135 (.agg #[a, b])
  else if i.1 = 3 then .iface 116 (.agg #[a, b]) else if i.1 = 4 then .iface 137 (.agg #[a, b, c])
  else if i.1 = 5 then .iface 139 (.agg #[c]) else if i.1 = 6 then .iface 141 (.agg #[a, b, c])
  else if i.1 = 7 then .iface 142 (.agg #[a, b, c]) else if i.1 = 8 then .iface 109 (.agg #[a, b, c])
  else if i.1 = 9 then .iface 144 (.agg #[a]) else if i.1 = 10 then .iface 146 (.agg #[a])
  else if i.1 = 11 then .iface 148 (.agg #[a, b]) else if i.1 = 12 then .iface 150 (.agg #[a, b]) else .nilIface

theorem kind_cases (K : Int) : K = 1 ∨ K = 2 ∨ K = 3 ∨ K = 4 ∨ K = 5 ∨ K = 6 ∨ K = 7 ∨ K = 8 ∨ K = 9 ∨ K = 10 ∨ K = 11 ∨ K = 12 ∨ (K < 1 ∨ 12 < K) := by omega
set_option maxHeartbeats 2000000 in
theorem instructionOf_any (i : I4) (w : World) :
    Calls Try.prog 65 #[aggI i] w fun e w' => e = .returned (ifcF i) ∧ Below w.heap.size w w' := by
  obtain ⟨K, a, b, c⟩ := i
  unfold aggI
  simp only
  rcases kind_cases K with rfl | rfl | rfl | rfl | rfl | rfl | rfl | rfl | rfl | rfl | rfl | rfl | hK
  iterate 12
    · simp only [ifcF]
      go_enter Try.func65, Try.ntmps65
      go_wp2
      go_ret
      exact ⟨by first | rfl | simp, by go_grown⟩
  · have e1 : (K == 1) = false := by simp; omega
    have e2 : (K == 2) = false := by simp; omega
    have e3 : (K == 3) = false := by simp; omega
    have e4 : (K == 4) = false := by simp; omega
    have e5 : (K == 5) = false := by simp; omega
    have e6 : (K == 6) = false := by simp; omega
    have e7 : (K == 7) = false := by simp; omega
    have e8 : (K == 8) = false := by simp; omega
    have e9 : (K == 9) = false := by simp; omega
    have e10 : (K == 10) = false := by simp; omega
    have e11 : (K == 11) = false := by simp; omega
    have e12 : (K == 12) = false := by simp; omega
    have hr : ifcF (K, a, b, c) = .nilIface := by
      have n1 : ¬ K = 1 := by omega
      have n2 : ¬ K = 2 := by omega
      have n3 : ¬ K = 3 := by omega
      have n4 : ¬ K = 4 := by omega
      have n5 : ¬ K = 5 := by omega
      have n6 : ¬ K = 6 := by omega
      have n7 : ¬ K = 7 := by omega
      have n8 : ¬ K = 8 := by omega
      have n9 : ¬ K = 9 := by omega
      have n10 : ¬ K = 10 := by omega
      have n11 : ¬ K = 11 := by omega
      have n12 : ¬ K = 12 := by omega
      simp only [ifcF, n1, n2, n3, n4, n5, n6, n7, n8, n9, n10, n11, n12, if_false]
    rw [hr]
    clear hr hK
    go_enter Try.func65, Try.ntmps65
    go_wp2
    go_ret
    exact ⟨rfl, by go_grown⟩

end Go.Proofs.Ytbjegekfghihkaa
