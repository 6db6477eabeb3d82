import Derived.Test.YtlkebkajdlgebaaGreatB7
/-
  The contracts of the program's small tests on numbers of instructions, and of what each kind of instruction asks of its numbers (fits).
-/
namespace Go.Proofs.YtlkebkajdlgebaaGreat
open Go.RowKit
set_option linter.unusedVariables false
set_option linter.unusedSimpArgs false

theorem isReg_any (n : Int) (w : World) : Calls Tryz.prog 170 #[.int .i64 n] w fun e w' => e = .returned (.bool (inI n 0 2)) ∧ w' = w := by
  by_cases h1 : 0 ≤ n
  · by_cases h2 : n < 3
    · go_enter Tryz.func170, Tryz.ntmps170
      go_wp2
      go_ret
      exact ⟨retBool (by simp [inI]; omega), rfl⟩
    · go_enter Tryz.func170, Tryz.ntmps170
      go_wp2
      go_ret
      exact ⟨retBool (by simp [inI]; omega), rfl⟩
  · go_enter Tryz.func170, Tryz.ntmps170
    go_wp2
    go_ret
    exact ⟨retBool (by simp [inI]; omega), rfl⟩

theorem isOp_any (n : Int) (w : World) : Calls Tryz.prog 178 #[.int .i64 n] w fun e w' => e = .returned (.bool (inI n 1 6)) ∧ w' = w := by
  by_cases h1 : 1 ≤ n
  · by_cases h2 : n ≤ 6
    · go_enter Tryz.func178, Tryz.ntmps178
      go_wp2
      go_ret
      exact ⟨retBool (by simp [inI]; omega), rfl⟩
    · go_enter Tryz.func178, Tryz.ntmps178
      go_wp2
      go_ret
      exact ⟨retBool (by simp [inI]; omega), rfl⟩
  · go_enter Tryz.func178, Tryz.ntmps178
    go_wp2
    go_ret
    exact ⟨retBool (by simp [inI]; omega), rfl⟩

theorem isWord_e (n : Int) (w : World) : Calls Tryz.prog 104 #[.int .i64 n] w fun e w' => e = .returned (.bool (inI n (-16) 15)) ∧ w' = w := by
  by_cases h1 : -16 ≤ n
  · by_cases h2 : n ≤ 15
    · go_enter Tryz.func104, Tryz.ntmps104
      go_wp2
      go_ret
      exact ⟨retBool (by simp [inI]; omega), rfl⟩
    · go_enter Tryz.func104, Tryz.ntmps104
      go_wp2
      go_ret
      exact ⟨retBool (by simp [inI]; omega), rfl⟩
  · go_enter Tryz.func104, Tryz.ntmps104
    go_wp2
    go_ret
    exact ⟨retBool (by simp [inI]; omega), rfl⟩

theorem areRegs_any (a b : Int) (w : World) : Calls Tryz.prog 173 #[.int .i64 a, .int .i64 b] w fun e w' => e = .returned (.bool (inI a 0 2 && inI b 0 2)) ∧ w' = w := by
  cases g1 : inI a 0 2
  · go_enter Tryz.func173, Tryz.ntmps173
    go_wp2_with (go_at_call 170; refine (isReg_any _ _).mono ?_; rintro e w' ⟨rfl, rfl⟩)
    go_ret
    exact ⟨retBool (by simp), rfl⟩
  · go_enter Tryz.func173, Tryz.ntmps173
    go_wp2_with (go_at_call 170; refine (isReg_any _ _).mono ?_; rintro e w' ⟨rfl, rfl⟩)
    go_ret
    exact ⟨retBool (by simp), rfl⟩

set_option maxHeartbeats 400000 in
theorem hasPlace_any (p q n : Int) (w : World) : Calls Tryz.prog 167 #[.agg #[.int .i64 p, .int .i64 q], .int .i64 n] w fun e w' => e = .returned (.bool (inI n 0 q)) ∧ Below w.heap.size w w' := by
  by_cases h1 : 0 ≤ n
  · by_cases h2 : n ≤ q
    · go_enter Tryz.func167, Tryz.ntmps167
      go_wp2
      go_ret
      exact ⟨retBool (by simp [inI]; omega), by go_grown⟩
    · go_enter Tryz.func167, Tryz.ntmps167
      go_wp2
      go_ret
      exact ⟨retBool (by simp [inI]; omega), by go_grown⟩
  · go_enter Tryz.func167, Tryz.ntmps167
    go_wp2
    go_ret
    exact ⟨retBool (by simp [inI]; omega), by go_grown⟩

set_option maxHeartbeats 400000 in
theorem hasProc_any (p q n : Int) (w : World) : Calls Tryz.prog 58 #[.agg #[.int .i64 p, .int .i64 q], .int .i64 n] w fun e w' => e = .returned (.bool (inI n 0 (p - 1))) ∧ Below w.heap.size w w' := by
  by_cases h1 : 0 ≤ n
  · by_cases h2 : n < p
    · go_enter Tryz.func58, Tryz.ntmps58
      go_wp2
      go_ret
      exact ⟨retBool (by simp [inI]; omega), by go_grown⟩
    · go_enter Tryz.func58, Tryz.ntmps58
      go_wp2
      go_ret
      exact ⟨retBool (by simp [inI]; omega), by go_grown⟩
  · go_enter Tryz.func58, Tryz.ntmps58
    go_wp2
    go_ret
    exact ⟨retBool (by simp [inI]; omega), by go_grown⟩

set_option maxHeartbeats 400000 in
theorem set_fits (a b p q : Int) (w : World) : Calls Tryz.prog 168 #[.agg #[.int .i64 a, .int .i64 b], .agg #[.int .i64 p, .int .i64 q]] w fun e w' => e = .returned (.bool (inI a 0 2 && inI b (-16) 15)) ∧ Below w.heap.size w w' := by
  cases g1 : inI a 0 2
  · go_enter Tryz.func168, Tryz.ntmps168
    go_wp2_with (first | (go_at_call 170; refine (isReg_any _ _).mono ?_; rintro e w' ⟨rfl, rfl⟩) | (go_at_call 178; refine (isOp_any _ _).mono ?_; rintro e w' ⟨rfl, rfl⟩) | (go_at_call 104; refine (isWord_e _ _).mono ?_; rintro e w' ⟨rfl, rfl⟩) | (go_at_call 173; refine (areRegs_any _ _ _).mono ?_; rintro e w' ⟨rfl, rfl⟩) | (go_at_call 167; refine (hasPlace_any _ _ _ _).mono ?_; rintro e w1 ⟨rfl, hb⟩) | (go_at_call 58; refine (hasProc_any _ _ _ _).mono ?_; rintro e w1 ⟨rfl, hb⟩))
    go_ret
    exact ⟨retBool (by first | rfl | (simp; done) | (simp [*]; done)), by first | exact Below.trans (by go_grown) (hb.mono (by go_size)) | go_grown⟩
  · go_enter Tryz.func168, Tryz.ntmps168
    go_wp2_with (first | (go_at_call 170; refine (isReg_any _ _).mono ?_; rintro e w' ⟨rfl, rfl⟩) | (go_at_call 178; refine (isOp_any _ _).mono ?_; rintro e w' ⟨rfl, rfl⟩) | (go_at_call 104; refine (isWord_e _ _).mono ?_; rintro e w' ⟨rfl, rfl⟩) | (go_at_call 173; refine (areRegs_any _ _ _).mono ?_; rintro e w' ⟨rfl, rfl⟩) | (go_at_call 167; refine (hasPlace_any _ _ _ _).mono ?_; rintro e w1 ⟨rfl, hb⟩) | (go_at_call 58; refine (hasProc_any _ _ _ _).mono ?_; rintro e w1 ⟨rfl, hb⟩))
    go_ret
    exact ⟨retBool (by first | rfl | (simp; done) | (simp [*]; done)), by first | exact Below.trans (by go_grown) (hb.mono (by go_size)) | go_grown⟩

set_option maxHeartbeats 400000 in
theorem move_fits (a b p q : Int) (w : World) : Calls Tryz.prog 171 #[.agg #[.int .i64 a, .int .i64 b], .agg #[.int .i64 p, .int .i64 q]] w fun e w' => e = .returned (.bool ((inI a 0 2 && inI b 0 2))) ∧ Below w.heap.size w w' := by
  go_enter Tryz.func171, Tryz.ntmps171
  go_wp2_with (first | (go_at_call 170; refine (isReg_any _ _).mono ?_; rintro e w' ⟨rfl, rfl⟩) | (go_at_call 178; refine (isOp_any _ _).mono ?_; rintro e w' ⟨rfl, rfl⟩) | (go_at_call 104; refine (isWord_e _ _).mono ?_; rintro e w' ⟨rfl, rfl⟩) | (go_at_call 173; refine (areRegs_any _ _ _).mono ?_; rintro e w' ⟨rfl, rfl⟩) | (go_at_call 167; refine (hasPlace_any _ _ _ _).mono ?_; rintro e w1 ⟨rfl, hb⟩) | (go_at_call 58; refine (hasProc_any _ _ _ _).mono ?_; rintro e w1 ⟨rfl, hb⟩))
  go_ret
  exact ⟨retBool (by first | rfl | (simp; done) | (simp [*]; done)), by first | exact Below.trans (by go_grown) (hb.mono (by go_size)) | go_grown⟩

set_option maxHeartbeats 400000 in
theorem ask_fits (a b p q : Int) (w : World) : Calls Tryz.prog 174 #[.agg #[.int .i64 a, .int .i64 b], .agg #[.int .i64 p, .int .i64 q]] w fun e w' => e = .returned (.bool (inI a 0 2 && inI b (-16) 15 && decide (0 ≤ b))) ∧ Below w.heap.size w w' := by
  cases g1 : inI a 0 2
  · go_enter Tryz.func174, Tryz.ntmps174
    go_wp2_with (first | (go_at_call 170; refine (isReg_any _ _).mono ?_; rintro e w' ⟨rfl, rfl⟩) | (go_at_call 178; refine (isOp_any _ _).mono ?_; rintro e w' ⟨rfl, rfl⟩) | (go_at_call 104; refine (isWord_e _ _).mono ?_; rintro e w' ⟨rfl, rfl⟩) | (go_at_call 173; refine (areRegs_any _ _ _).mono ?_; rintro e w' ⟨rfl, rfl⟩) | (go_at_call 167; refine (hasPlace_any _ _ _ _).mono ?_; rintro e w1 ⟨rfl, hb⟩) | (go_at_call 58; refine (hasProc_any _ _ _ _).mono ?_; rintro e w1 ⟨rfl, hb⟩))
    go_ret
    exact ⟨retBool (by first | rfl | (simp; done) | (simp [*]; done)), by first | exact Below.trans (by go_grown) (hb.mono (by go_size)) | go_grown⟩
  · cases g2 : inI b (-16) 15
    · go_enter Tryz.func174, Tryz.ntmps174
      go_wp2_with (first | (go_at_call 170; refine (isReg_any _ _).mono ?_; rintro e w' ⟨rfl, rfl⟩) | (go_at_call 178; refine (isOp_any _ _).mono ?_; rintro e w' ⟨rfl, rfl⟩) | (go_at_call 104; refine (isWord_e _ _).mono ?_; rintro e w' ⟨rfl, rfl⟩) | (go_at_call 173; refine (areRegs_any _ _ _).mono ?_; rintro e w' ⟨rfl, rfl⟩) | (go_at_call 167; refine (hasPlace_any _ _ _ _).mono ?_; rintro e w1 ⟨rfl, hb⟩) | (go_at_call 58; refine (hasProc_any _ _ _ _).mono ?_; rintro e w1 ⟨rfl, hb⟩))
      go_ret
      exact ⟨retBool (by first | rfl | (simp; done) | (simp [*]; done)), by first | exact Below.trans (by go_grown) (hb.mono (by go_size)) | go_grown⟩
    · go_enter Tryz.func174, Tryz.ntmps174
      go_wp2_with (first | (go_at_call 170; refine (isReg_any _ _).mono ?_; rintro e w' ⟨rfl, rfl⟩) | (go_at_call 178; refine (isOp_any _ _).mono ?_; rintro e w' ⟨rfl, rfl⟩) | (go_at_call 104; refine (isWord_e _ _).mono ?_; rintro e w' ⟨rfl, rfl⟩) | (go_at_call 173; refine (areRegs_any _ _ _).mono ?_; rintro e w' ⟨rfl, rfl⟩) | (go_at_call 167; refine (hasPlace_any _ _ _ _).mono ?_; rintro e w1 ⟨rfl, hb⟩) | (go_at_call 58; refine (hasProc_any _ _ _ _).mono ?_; rintro e w1 ⟨rfl, hb⟩))
      go_ret
      exact ⟨retBool (by first | rfl | (simp; done) | (simp [*]; done)), by first | exact Below.trans (by go_grown) (hb.mono (by go_size)) | go_grown⟩

set_option maxHeartbeats 400000 in
theorem do_fits (a b c p q : Int) (w : World) : Calls Tryz.prog 176 #[.agg #[.int .i64 a, .int .i64 b, .int .i64 c], .agg #[.int .i64 p, .int .i64 q]] w fun e w' => e = .returned (.bool ((inI a 0 2 && inI b 0 2) && inI c 1 6)) ∧ Below w.heap.size w w' := by
  cases g1 : (inI a 0 2 && inI b 0 2)
  · go_enter Tryz.func176, Tryz.ntmps176
    go_wp2_with (first | (go_at_call 170; refine (isReg_any _ _).mono ?_; rintro e w' ⟨rfl, rfl⟩) | (go_at_call 178; refine (isOp_any _ _).mono ?_; rintro e w' ⟨rfl, rfl⟩) | (go_at_call 104; refine (isWord_e _ _).mono ?_; rintro e w' ⟨rfl, rfl⟩) | (go_at_call 173; refine (areRegs_any _ _ _).mono ?_; rintro e w' ⟨rfl, rfl⟩) | (go_at_call 167; refine (hasPlace_any _ _ _ _).mono ?_; rintro e w1 ⟨rfl, hb⟩) | (go_at_call 58; refine (hasProc_any _ _ _ _).mono ?_; rintro e w1 ⟨rfl, hb⟩))
    go_ret
    exact ⟨retBool (by first | rfl | (simp; done) | (simp [*]; done)), by first | exact Below.trans (by go_grown) (hb.mono (by go_size)) | go_grown⟩
  · go_enter Tryz.func176, Tryz.ntmps176
    go_wp2_with (first | (go_at_call 170; refine (isReg_any _ _).mono ?_; rintro e w' ⟨rfl, rfl⟩) | (go_at_call 178; refine (isOp_any _ _).mono ?_; rintro e w' ⟨rfl, rfl⟩) | (go_at_call 104; refine (isWord_e _ _).mono ?_; rintro e w' ⟨rfl, rfl⟩) | (go_at_call 173; refine (areRegs_any _ _ _).mono ?_; rintro e w' ⟨rfl, rfl⟩) | (go_at_call 167; refine (hasPlace_any _ _ _ _).mono ?_; rintro e w1 ⟨rfl, hb⟩) | (go_at_call 58; refine (hasProc_any _ _ _ _).mono ?_; rintro e w1 ⟨rfl, hb⟩))
    go_ret
    exact ⟨retBool (by first | rfl | (simp; done) | (simp [*]; done)), by first | exact Below.trans (by go_grown) (hb.mono (by go_size)) | go_grown⟩

set_option maxHeartbeats 400000 in
theorem go_fits (c p q : Int) (w : World) : Calls Tryz.prog 179 #[.agg #[.int .i64 c], .agg #[.int .i64 p, .int .i64 q]] w fun e w' => e = .returned (.bool (inI c 0 q)) ∧ Below w.heap.size w w' := by
  go_enter Tryz.func179, Tryz.ntmps179
  go_wp2_with (first | (go_at_call 170; refine (isReg_any _ _).mono ?_; rintro e w' ⟨rfl, rfl⟩) | (go_at_call 178; refine (isOp_any _ _).mono ?_; rintro e w' ⟨rfl, rfl⟩) | (go_at_call 104; refine (isWord_e _ _).mono ?_; rintro e w' ⟨rfl, rfl⟩) | (go_at_call 173; refine (areRegs_any _ _ _).mono ?_; rintro e w' ⟨rfl, rfl⟩) | (go_at_call 167; refine (hasPlace_any _ _ _ _).mono ?_; rintro e w1 ⟨rfl, hb⟩) | (go_at_call 58; refine (hasProc_any _ _ _ _).mono ?_; rintro e w1 ⟨rfl, hb⟩))
  go_ret
  exact ⟨retBool (by first | rfl | (simp; done) | (simp [*]; done)), by first | exact Below.trans (by go_grown) (hb.mono (by go_size)) | go_grown⟩

set_option maxHeartbeats 400000 in
theorem less_fits (a b c p q : Int) (w : World) : Calls Tryz.prog 181 #[.agg #[.int .i64 a, .int .i64 b, .int .i64 c], .agg #[.int .i64 p, .int .i64 q]] w fun e w' => e = .returned (.bool ((inI a 0 2 && inI b 0 2) && inI c 0 q)) ∧ Below w.heap.size w w' := by
  cases g1 : (inI a 0 2 && inI b 0 2)
  · go_enter Tryz.func181, Tryz.ntmps181
    go_wp2_with (first | (go_at_call 170; refine (isReg_any _ _).mono ?_; rintro e w' ⟨rfl, rfl⟩) | (go_at_call 178; refine (isOp_any _ _).mono ?_; rintro e w' ⟨rfl, rfl⟩) | (go_at_call 104; refine (isWord_e _ _).mono ?_; rintro e w' ⟨rfl, rfl⟩) | (go_at_call 173; refine (areRegs_any _ _ _).mono ?_; rintro e w' ⟨rfl, rfl⟩) | (go_at_call 167; refine (hasPlace_any _ _ _ _).mono ?_; rintro e w1 ⟨rfl, hb⟩) | (go_at_call 58; refine (hasProc_any _ _ _ _).mono ?_; rintro e w1 ⟨rfl, hb⟩))
    go_ret
    exact ⟨retBool (by first | rfl | (simp; done) | (simp [*]; done)), by first | exact Below.trans (by go_grown) (hb.mono (by go_size)) | go_grown⟩
  · go_enter Tryz.func181, Tryz.ntmps181
    go_wp2_with (first | (go_at_call 170; refine (isReg_any _ _).mono ?_; rintro e w' ⟨rfl, rfl⟩) | (go_at_call 178; refine (isOp_any _ _).mono ?_; rintro e w' ⟨rfl, rfl⟩) | (go_at_call 104; refine (isWord_e _ _).mono ?_; rintro e w' ⟨rfl, rfl⟩) | (go_at_call 173; refine (areRegs_any _ _ _).mono ?_; rintro e w' ⟨rfl, rfl⟩) | (go_at_call 167; refine (hasPlace_any _ _ _ _).mono ?_; rintro e w1 ⟨rfl, hb⟩) | (go_at_call 58; refine (hasProc_any _ _ _ _).mono ?_; rintro e w1 ⟨rfl, hb⟩))
    go_ret
    exact ⟨retBool (by first | rfl | (simp; done) | (simp [*]; done)), by first | exact Below.trans (by go_grown) (hb.mono (by go_size)) | go_grown⟩

set_option maxHeartbeats 400000 in
theorem same_fits (a b c p q : Int) (w : World) : Calls Tryz.prog 183 #[.agg #[.int .i64 a, .int .i64 b, .int .i64 c], .agg #[.int .i64 p, .int .i64 q]] w fun e w' => e = .returned (.bool ((inI a 0 2 && inI b 0 2) && inI c 0 q)) ∧ Below w.heap.size w w' := by
  cases g1 : (inI a 0 2 && inI b 0 2)
  · go_enter Tryz.func183, Tryz.ntmps183
    go_wp2_with (first | (go_at_call 170; refine (isReg_any _ _).mono ?_; rintro e w' ⟨rfl, rfl⟩) | (go_at_call 178; refine (isOp_any _ _).mono ?_; rintro e w' ⟨rfl, rfl⟩) | (go_at_call 104; refine (isWord_e _ _).mono ?_; rintro e w' ⟨rfl, rfl⟩) | (go_at_call 173; refine (areRegs_any _ _ _).mono ?_; rintro e w' ⟨rfl, rfl⟩) | (go_at_call 167; refine (hasPlace_any _ _ _ _).mono ?_; rintro e w1 ⟨rfl, hb⟩) | (go_at_call 58; refine (hasProc_any _ _ _ _).mono ?_; rintro e w1 ⟨rfl, hb⟩))
    go_ret
    exact ⟨retBool (by first | rfl | (simp; done) | (simp [*]; done)), by first | exact Below.trans (by go_grown) (hb.mono (by go_size)) | go_grown⟩
  · go_enter Tryz.func183, Tryz.ntmps183
    go_wp2_with (first | (go_at_call 170; refine (isReg_any _ _).mono ?_; rintro e w' ⟨rfl, rfl⟩) | (go_at_call 178; refine (isOp_any _ _).mono ?_; rintro e w' ⟨rfl, rfl⟩) | (go_at_call 104; refine (isWord_e _ _).mono ?_; rintro e w' ⟨rfl, rfl⟩) | (go_at_call 173; refine (areRegs_any _ _ _).mono ?_; rintro e w' ⟨rfl, rfl⟩) | (go_at_call 167; refine (hasPlace_any _ _ _ _).mono ?_; rintro e w1 ⟨rfl, hb⟩) | (go_at_call 58; refine (hasProc_any _ _ _ _).mono ?_; rintro e w1 ⟨rfl, hb⟩))
    go_ret
    exact ⟨retBool (by first | rfl | (simp; done) | (simp [*]; done)), by first | exact Below.trans (by go_grown) (hb.mono (by go_size)) | go_grown⟩

set_option maxHeartbeats 400000 in
theorem call_fits (a b c p q : Int) (w : World) : Calls Tryz.prog 185 #[.agg #[.int .i64 a, .int .i64 b, .int .i64 c], .agg #[.int .i64 p, .int .i64 q]] w fun e w' => e = .returned (.bool ((inI a 0 2 && inI c 0 2) && inI b 0 (p - 1))) ∧ Below w.heap.size w w' := by
  cases g1 : (inI a 0 2 && inI c 0 2)
  · go_enter Tryz.func185, Tryz.ntmps185
    go_wp2_with (first | (go_at_call 170; refine (isReg_any _ _).mono ?_; rintro e w' ⟨rfl, rfl⟩) | (go_at_call 178; refine (isOp_any _ _).mono ?_; rintro e w' ⟨rfl, rfl⟩) | (go_at_call 104; refine (isWord_e _ _).mono ?_; rintro e w' ⟨rfl, rfl⟩) | (go_at_call 173; refine (areRegs_any _ _ _).mono ?_; rintro e w' ⟨rfl, rfl⟩) | (go_at_call 167; refine (hasPlace_any _ _ _ _).mono ?_; rintro e w1 ⟨rfl, hb⟩) | (go_at_call 58; refine (hasProc_any _ _ _ _).mono ?_; rintro e w1 ⟨rfl, hb⟩))
    go_ret
    exact ⟨retBool (by first | rfl | (simp; done) | (simp [*]; done)), by first | exact Below.trans (by go_grown) (hb.mono (by go_size)) | go_grown⟩
  · go_enter Tryz.func185, Tryz.ntmps185
    go_wp2_with (first | (go_at_call 170; refine (isReg_any _ _).mono ?_; rintro e w' ⟨rfl, rfl⟩) | (go_at_call 178; refine (isOp_any _ _).mono ?_; rintro e w' ⟨rfl, rfl⟩) | (go_at_call 104; refine (isWord_e _ _).mono ?_; rintro e w' ⟨rfl, rfl⟩) | (go_at_call 173; refine (areRegs_any _ _ _).mono ?_; rintro e w' ⟨rfl, rfl⟩) | (go_at_call 167; refine (hasPlace_any _ _ _ _).mono ?_; rintro e w1 ⟨rfl, hb⟩) | (go_at_call 58; refine (hasProc_any _ _ _ _).mono ?_; rintro e w1 ⟨rfl, hb⟩))
    go_ret
    exact ⟨retBool (by first | rfl | (simp; done) | (simp [*]; done)), by first | exact Below.trans (by go_grown) (hb.mono (by go_size)) | go_grown⟩

set_option maxHeartbeats 400000 in
theorem back_fits (a p q : Int) (w : World) : Calls Tryz.prog 187 #[.agg #[.int .i64 a], .agg #[.int .i64 p, .int .i64 q]] w fun e w' => e = .returned (.bool (inI a 0 2)) ∧ Below w.heap.size w w' := by
  go_enter Tryz.func187, Tryz.ntmps187
  go_wp2_with (first | (go_at_call 170; refine (isReg_any _ _).mono ?_; rintro e w' ⟨rfl, rfl⟩) | (go_at_call 178; refine (isOp_any _ _).mono ?_; rintro e w' ⟨rfl, rfl⟩) | (go_at_call 104; refine (isWord_e _ _).mono ?_; rintro e w' ⟨rfl, rfl⟩) | (go_at_call 173; refine (areRegs_any _ _ _).mono ?_; rintro e w' ⟨rfl, rfl⟩) | (go_at_call 167; refine (hasPlace_any _ _ _ _).mono ?_; rintro e w1 ⟨rfl, hb⟩) | (go_at_call 58; refine (hasProc_any _ _ _ _).mono ?_; rintro e w1 ⟨rfl, hb⟩))
  go_ret
  exact ⟨retBool (by first | rfl | (simp; done) | (simp [*]; done)), by first | exact Below.trans (by go_grown) (hb.mono (by go_size)) | go_grown⟩

set_option maxHeartbeats 400000 in
theorem hold_fits (a p q : Int) (w : World) : Calls Tryz.prog 189 #[.agg #[.int .i64 a], .agg #[.int .i64 p, .int .i64 q]] w fun e w' => e = .returned (.bool (inI a 0 2)) ∧ Below w.heap.size w w' := by
  go_enter Tryz.func189, Tryz.ntmps189
  go_wp2_with (first | (go_at_call 170; refine (isReg_any _ _).mono ?_; rintro e w' ⟨rfl, rfl⟩) | (go_at_call 178; refine (isOp_any _ _).mono ?_; rintro e w' ⟨rfl, rfl⟩) | (go_at_call 104; refine (isWord_e _ _).mono ?_; rintro e w' ⟨rfl, rfl⟩) | (go_at_call 173; refine (areRegs_any _ _ _).mono ?_; rintro e w' ⟨rfl, rfl⟩) | (go_at_call 167; refine (hasPlace_any _ _ _ _).mono ?_; rintro e w1 ⟨rfl, hb⟩) | (go_at_call 58; refine (hasProc_any _ _ _ _).mono ?_; rintro e w1 ⟨rfl, hb⟩))
  go_ret
  exact ⟨retBool (by first | rfl | (simp; done) | (simp [*]; done)), by first | exact Below.trans (by go_grown) (hb.mono (by go_size)) | go_grown⟩

set_option maxHeartbeats 400000 in
theorem put_fits (a b p q : Int) (w : World) : Calls Tryz.prog 191 #[.agg #[.int .i64 a, .int .i64 b], .agg #[.int .i64 p, .int .i64 q]] w fun e w' => e = .returned (.bool ((inI a 0 2 && inI b 0 2))) ∧ Below w.heap.size w w' := by
  go_enter Tryz.func191, Tryz.ntmps191
  go_wp2_with (first | (go_at_call 170; refine (isReg_any _ _).mono ?_; rintro e w' ⟨rfl, rfl⟩) | (go_at_call 178; refine (isOp_any _ _).mono ?_; rintro e w' ⟨rfl, rfl⟩) | (go_at_call 104; refine (isWord_e _ _).mono ?_; rintro e w' ⟨rfl, rfl⟩) | (go_at_call 173; refine (areRegs_any _ _ _).mono ?_; rintro e w' ⟨rfl, rfl⟩) | (go_at_call 167; refine (hasPlace_any _ _ _ _).mono ?_; rintro e w1 ⟨rfl, hb⟩) | (go_at_call 58; refine (hasProc_any _ _ _ _).mono ?_; rintro e w1 ⟨rfl, hb⟩))
  go_ret
  exact ⟨retBool (by first | rfl | (simp; done) | (simp [*]; done)), by first | exact Below.trans (by go_grown) (hb.mono (by go_size)) | go_grown⟩

set_option maxHeartbeats 400000 in
theorem get_fits (a b p q : Int) (w : World) : Calls Tryz.prog 193 #[.agg #[.int .i64 a, .int .i64 b], .agg #[.int .i64 p, .int .i64 q]] w fun e w' => e = .returned (.bool ((inI a 0 2 && inI b 0 2))) ∧ Below w.heap.size w w' := by
  go_enter Tryz.func193, Tryz.ntmps193
  go_wp2_with (first | (go_at_call 170; refine (isReg_any _ _).mono ?_; rintro e w' ⟨rfl, rfl⟩) | (go_at_call 178; refine (isOp_any _ _).mono ?_; rintro e w' ⟨rfl, rfl⟩) | (go_at_call 104; refine (isWord_e _ _).mono ?_; rintro e w' ⟨rfl, rfl⟩) | (go_at_call 173; refine (areRegs_any _ _ _).mono ?_; rintro e w' ⟨rfl, rfl⟩) | (go_at_call 167; refine (hasPlace_any _ _ _ _).mono ?_; rintro e w1 ⟨rfl, hb⟩) | (go_at_call 58; refine (hasProc_any _ _ _ _).mono ?_; rintro e w1 ⟨rfl, hb⟩))
  go_ret
  exact ⟨retBool (by first | rfl | (simp; done) | (simp [*]; done)), by first | exact Below.trans (by go_grown) (hb.mono (by go_size)) | go_grown⟩

end Go.Proofs.YtlkebkajdlgebaaGreat

/-
  The contract of the program's instructionOf.
-/
namespace Go.Proofs.YtlkebkajdlgebaaGreat
open Go.RowKit
set_option linter.unusedVariables false
set_option linter.unusedSimpArgs false

/-- what an instruction is behind its interface -/
def ifcF (i : I4) : Value :=
  let a := Value.int .i64 i.2.1
  let b := Value.int .i64 i.2.2.1
  let c := Value.int .i64 i.2.2.2
  if i.1 = 1 then .iface 156 (.agg #[a, b]) else if i.1 = 2 then .iface 158 (.agg #[a, b])
  else if i.1 = 3 then .iface 160 (.agg #[a, b]) else if i.1 = 4 then .iface 162 (.agg #[a, b, c])
  else if i.1 = 5 then .iface 164 (.agg #[c]) else if i.1 = 6 then .iface 166 (.agg #[a, b, c])
  else if i.1 = 7 then .iface 167 (.agg #[a, b, c]) else if i.1 = 8 then .iface 169 (.agg #[a, b, c])
  else if i.1 = 9 then .iface 171 (.agg #[a]) else if i.1 = 10 then .iface 173 (.agg #[a])
  else if i.1 = 11 then .iface 175 (.agg #[a, b]) else if i.1 = 12 then .iface 177 (.agg #[a, b]) else .nilIface

theorem kind_cases (K : Int) : K = 1 ∨ K = 2 ∨ K = 3 ∨ K = 4 ∨ K = 5 ∨ K = 6 ∨ K = 7 ∨ K = 8 ∨ K = 9 ∨ K = 10 ∨ K = 11 ∨ K = 12 ∨ (K < 1 ∨ 12 < K) := by omega
set_option maxHeartbeats 2000000 in
theorem instructionOf_any (i : I4) (w : World) :
    Calls Tryz.prog 79 #[aggI i] w fun e w' => e = .returned (ifcF i) ∧ Below w.heap.size w w' := by
  obtain ⟨K, a, b, c⟩ := i
  unfold aggI
  simp only
  rcases kind_cases K with rfl | rfl | rfl | rfl | rfl | rfl | rfl | rfl | rfl | rfl | rfl | rfl | hK
  iterate 12
    · simp only [ifcF]
      go_enter Tryz.func79, Tryz.ntmps79
      go_wp2
      go_ret
      exact ⟨by first | rfl | simp, by go_grown⟩
  · have e1 : (K == 1) = false := by simp; omega
    have e2 : (K == 2) = false := by simp; omega
    have e3 : (K == 3) = false := by simp; omega
    have e4 : (K == 4) = false := by simp; omega
    have e5 : (K == 5) = false := by simp; omega
    have e6 : (K == 6) = false := by simp; omega
    have e7 : (K == 7) = false := by simp; omega
    have e8 : (K == 8) = false := by simp; omega
    have e9 : (K == 9) = false := by simp; omega
    have e10 : (K == 10) = false := by simp; omega
    have e11 : (K == 11) = false := by simp; omega
    have e12 : (K == 12) = false := by simp; omega
    have hr : ifcF (K, a, b, c) = .nilIface := by
      have n1 : ¬ K = 1 := by omega
      have n2 : ¬ K = 2 := by omega
      have n3 : ¬ K = 3 := by omega
      have n4 : ¬ K = 4 := by omega
      have n5 : ¬ K = 5 := by omega
      have n6 : ¬ K = 6 := by omega
      have n7 : ¬ K = 7 := by omega
      have n8 : ¬ K = 8 := by omega
      have n9 : ¬ K = 9 := by omega
      have n10 : ¬ K = 10 := by omega
      have n11 : ¬ K = 11 := by omega
      have n12 : ¬ K = 12 := by omega
      simp only [ifcF, n1, n2, n3, n4, n5, n6, n7, n8, n9, n10, n11, n12, if_false]
    rw [hr]
    clear hr hK
    go_enter Tryz.func79, Tryz.ntmps79
    go_wp2
    go_ret
    exact ⟨rfl, by go_grown⟩

end Go.Proofs.YtlkebkajdlgebaaGreat

/-
  The contract of the program's lettersOf: which letters an instruction names, told apart by its type.
-/
namespace Go.Proofs.YtlkebkajdlgebaaGreat
open Go.RowKit
set_option linter.unusedVariables false
set_option linter.unusedSimpArgs false

theorem ta_set_back (v : Value) (w : World) : Sem.run Tryz.prog (Instr.typeAssert (.iface 156 v) 130 171 true) w = .ok (.tuple #[.agg #[.int .i64 0], .bool false]) w := by kernel_rfl
theorem ta_set_hold (v : Value) (w : World) : Sem.run Tryz.prog (Instr.typeAssert (.iface 156 v) 130 173 true) w = .ok (.tuple #[.agg #[.int .i64 0], .bool false]) w := by kernel_rfl
theorem ta_set_go (v : Value) (w : World) : Sem.run Tryz.prog (Instr.typeAssert (.iface 156 v) 130 164 true) w = .ok (.tuple #[.agg #[.int .i64 0], .bool false]) w := by kernel_rfl
theorem ta_set_set (v : Value) (w : World) : Sem.run Tryz.prog (Instr.typeAssert (.iface 156 v) 130 156 true) w = .ok (.tuple #[v, .bool true]) w := by kernel_rfl
theorem ta_set_move (v : Value) (w : World) : Sem.run Tryz.prog (Instr.typeAssert (.iface 156 v) 130 158 true) w = .ok (.tuple #[.agg #[.int .i64 0, .int .i64 0], .bool false]) w := by kernel_rfl
theorem ta_set_ask (v : Value) (w : World) : Sem.run Tryz.prog (Instr.typeAssert (.iface 156 v) 130 160 true) w = .ok (.tuple #[.agg #[.int .i64 0, .int .i64 0], .bool false]) w := by kernel_rfl
theorem ta_set_put (v : Value) (w : World) : Sem.run Tryz.prog (Instr.typeAssert (.iface 156 v) 130 175 true) w = .ok (.tuple #[.agg #[.int .i64 0, .int .i64 0], .bool false]) w := by kernel_rfl
theorem ta_set_get (v : Value) (w : World) : Sem.run Tryz.prog (Instr.typeAssert (.iface 156 v) 130 177 true) w = .ok (.tuple #[.agg #[.int .i64 0, .int .i64 0], .bool false]) w := by kernel_rfl
theorem ta_move_back (v : Value) (w : World) : Sem.run Tryz.prog (Instr.typeAssert (.iface 158 v) 130 171 true) w = .ok (.tuple #[.agg #[.int .i64 0], .bool false]) w := by kernel_rfl
theorem ta_move_hold (v : Value) (w : World) : Sem.run Tryz.prog (Instr.typeAssert (.iface 158 v) 130 173 true) w = .ok (.tuple #[.agg #[.int .i64 0], .bool false]) w := by kernel_rfl
theorem ta_move_go (v : Value) (w : World) : Sem.run Tryz.prog (Instr.typeAssert (.iface 158 v) 130 164 true) w = .ok (.tuple #[.agg #[.int .i64 0], .bool false]) w := by kernel_rfl
theorem ta_move_set (v : Value) (w : World) : Sem.run Tryz.prog (Instr.typeAssert (.iface 158 v) 130 156 true) w = .ok (.tuple #[.agg #[.int .i64 0, .int .i64 0], .bool false]) w := by kernel_rfl
theorem ta_move_move (v : Value) (w : World) : Sem.run Tryz.prog (Instr.typeAssert (.iface 158 v) 130 158 true) w = .ok (.tuple #[v, .bool true]) w := by kernel_rfl
theorem ta_move_ask (v : Value) (w : World) : Sem.run Tryz.prog (Instr.typeAssert (.iface 158 v) 130 160 true) w = .ok (.tuple #[.agg #[.int .i64 0, .int .i64 0], .bool false]) w := by kernel_rfl
theorem ta_move_put (v : Value) (w : World) : Sem.run Tryz.prog (Instr.typeAssert (.iface 158 v) 130 175 true) w = .ok (.tuple #[.agg #[.int .i64 0, .int .i64 0], .bool false]) w := by kernel_rfl
theorem ta_move_get (v : Value) (w : World) : Sem.run Tryz.prog (Instr.typeAssert (.iface 158 v) 130 177 true) w = .ok (.tuple #[.agg #[.int .i64 0, .int .i64 0], .bool false]) w := by kernel_rfl
theorem ta_ask_back (v : Value) (w : World) : Sem.run Tryz.prog (Instr.typeAssert (.iface 160 v) 130 171 true) w = .ok (.tuple #[.agg #[.int .i64 0], .bool false]) w := by kernel_rfl
theorem ta_ask_hold (v : Value) (w : World) : Sem.run Tryz.prog (Instr.typeAssert (.iface 160 v) 130 173 true) w = .ok (.tuple #[.agg #[.int .i64 0], .bool false]) w := by kernel_rfl
theorem ta_ask_go (v : Value) (w : World) : Sem.run Tryz.prog (Instr.typeAssert (.iface 160 v) 130 164 true) w = .ok (.tuple #[.agg #[.int .i64 0], .bool false]) w := by kernel_rfl
theorem ta_ask_set (v : Value) (w : World) : Sem.run Tryz.prog (Instr.typeAssert (.iface 160 v) 130 156 true) w = .ok (.tuple #[.agg #[.int .i64 0, .int .i64 0], .bool false]) w := by kernel_rfl
theorem ta_ask_move (v : Value) (w : World) : Sem.run Tryz.prog (Instr.typeAssert (.iface 160 v) 130 158 true) w = .ok (.tuple #[.agg #[.int .i64 0, .int .i64 0], .bool false]) w := by kernel_rfl
theorem ta_ask_ask (v : Value) (w : World) : Sem.run Tryz.prog (Instr.typeAssert (.iface 160 v) 130 160 true) w = .ok (.tuple #[v, .bool true]) w := by kernel_rfl
theorem ta_ask_put (v : Value) (w : World) : Sem.run Tryz.prog (Instr.typeAssert (.iface 160 v) 130 175 true) w = .ok (.tuple #[.agg #[.int .i64 0, .int .i64 0], .bool false]) w := by kernel_rfl
theorem ta_ask_get (v : Value) (w : World) : Sem.run Tryz.prog (Instr.typeAssert (.iface 160 v) 130 177 true) w = .ok (.tuple #[.agg #[.int .i64 0, .int .i64 0], .bool false]) w := by kernel_rfl
theorem ta_do_back (v : Value) (w : World) : Sem.run Tryz.prog (Instr.typeAssert (.iface 162 v) 130 171 true) w = .ok (.tuple #[.agg #[.int .i64 0], .bool false]) w := by kernel_rfl
theorem ta_do_hold (v : Value) (w : World) : Sem.run Tryz.prog (Instr.typeAssert (.iface 162 v) 130 173 true) w = .ok (.tuple #[.agg #[.int .i64 0], .bool false]) w := by kernel_rfl
theorem ta_do_go (v : Value) (w : World) : Sem.run Tryz.prog (Instr.typeAssert (.iface 162 v) 130 164 true) w = .ok (.tuple #[.agg #[.int .i64 0], .bool false]) w := by kernel_rfl
theorem ta_do_set (v : Value) (w : World) : Sem.run Tryz.prog (Instr.typeAssert (.iface 162 v) 130 156 true) w = .ok (.tuple #[.agg #[.int .i64 0, .int .i64 0], .bool false]) w := by kernel_rfl
theorem ta_do_move (v : Value) (w : World) : Sem.run Tryz.prog (Instr.typeAssert (.iface 162 v) 130 158 true) w = .ok (.tuple #[.agg #[.int .i64 0, .int .i64 0], .bool false]) w := by kernel_rfl
theorem ta_do_ask (v : Value) (w : World) : Sem.run Tryz.prog (Instr.typeAssert (.iface 162 v) 130 160 true) w = .ok (.tuple #[.agg #[.int .i64 0, .int .i64 0], .bool false]) w := by kernel_rfl
theorem ta_do_put (v : Value) (w : World) : Sem.run Tryz.prog (Instr.typeAssert (.iface 162 v) 130 175 true) w = .ok (.tuple #[.agg #[.int .i64 0, .int .i64 0], .bool false]) w := by kernel_rfl
theorem ta_do_get (v : Value) (w : World) : Sem.run Tryz.prog (Instr.typeAssert (.iface 162 v) 130 177 true) w = .ok (.tuple #[.agg #[.int .i64 0, .int .i64 0], .bool false]) w := by kernel_rfl
theorem ta_go_back (v : Value) (w : World) : Sem.run Tryz.prog (Instr.typeAssert (.iface 164 v) 130 171 true) w = .ok (.tuple #[.agg #[.int .i64 0], .bool false]) w := by kernel_rfl
theorem ta_go_hold (v : Value) (w : World) : Sem.run Tryz.prog (Instr.typeAssert (.iface 164 v) 130 173 true) w = .ok (.tuple #[.agg #[.int .i64 0], .bool false]) w := by kernel_rfl
theorem ta_go_go (v : Value) (w : World) : Sem.run Tryz.prog (Instr.typeAssert (.iface 164 v) 130 164 true) w = .ok (.tuple #[v, .bool true]) w := by kernel_rfl
theorem ta_go_set (v : Value) (w : World) : Sem.run Tryz.prog (Instr.typeAssert (.iface 164 v) 130 156 true) w = .ok (.tuple #[.agg #[.int .i64 0, .int .i64 0], .bool false]) w := by kernel_rfl
theorem ta_go_move (v : Value) (w : World) : Sem.run Tryz.prog (Instr.typeAssert (.iface 164 v) 130 158 true) w = .ok (.tuple #[.agg #[.int .i64 0, .int .i64 0], .bool false]) w := by kernel_rfl
theorem ta_go_ask (v : Value) (w : World) : Sem.run Tryz.prog (Instr.typeAssert (.iface 164 v) 130 160 true) w = .ok (.tuple #[.agg #[.int .i64 0, .int .i64 0], .bool false]) w := by kernel_rfl
theorem ta_go_put (v : Value) (w : World) : Sem.run Tryz.prog (Instr.typeAssert (.iface 164 v) 130 175 true) w = .ok (.tuple #[.agg #[.int .i64 0, .int .i64 0], .bool false]) w := by kernel_rfl
theorem ta_go_get (v : Value) (w : World) : Sem.run Tryz.prog (Instr.typeAssert (.iface 164 v) 130 177 true) w = .ok (.tuple #[.agg #[.int .i64 0, .int .i64 0], .bool false]) w := by kernel_rfl
theorem ta_less_back (v : Value) (w : World) : Sem.run Tryz.prog (Instr.typeAssert (.iface 166 v) 130 171 true) w = .ok (.tuple #[.agg #[.int .i64 0], .bool false]) w := by kernel_rfl
theorem ta_less_hold (v : Value) (w : World) : Sem.run Tryz.prog (Instr.typeAssert (.iface 166 v) 130 173 true) w = .ok (.tuple #[.agg #[.int .i64 0], .bool false]) w := by kernel_rfl
theorem ta_less_go (v : Value) (w : World) : Sem.run Tryz.prog (Instr.typeAssert (.iface 166 v) 130 164 true) w = .ok (.tuple #[.agg #[.int .i64 0], .bool false]) w := by kernel_rfl
theorem ta_less_set (v : Value) (w : World) : Sem.run Tryz.prog (Instr.typeAssert (.iface 166 v) 130 156 true) w = .ok (.tuple #[.agg #[.int .i64 0, .int .i64 0], .bool false]) w := by kernel_rfl
theorem ta_less_move (v : Value) (w : World) : Sem.run Tryz.prog (Instr.typeAssert (.iface 166 v) 130 158 true) w = .ok (.tuple #[.agg #[.int .i64 0, .int .i64 0], .bool false]) w := by kernel_rfl
theorem ta_less_ask (v : Value) (w : World) : Sem.run Tryz.prog (Instr.typeAssert (.iface 166 v) 130 160 true) w = .ok (.tuple #[.agg #[.int .i64 0, .int .i64 0], .bool false]) w := by kernel_rfl
theorem ta_less_put (v : Value) (w : World) : Sem.run Tryz.prog (Instr.typeAssert (.iface 166 v) 130 175 true) w = .ok (.tuple #[.agg #[.int .i64 0, .int .i64 0], .bool false]) w := by kernel_rfl
theorem ta_less_get (v : Value) (w : World) : Sem.run Tryz.prog (Instr.typeAssert (.iface 166 v) 130 177 true) w = .ok (.tuple #[.agg #[.int .i64 0, .int .i64 0], .bool false]) w := by kernel_rfl
theorem ta_same_back (v : Value) (w : World) : Sem.run Tryz.prog (Instr.typeAssert (.iface 167 v) 130 171 true) w = .ok (.tuple #[.agg #[.int .i64 0], .bool false]) w := by kernel_rfl
theorem ta_same_hold (v : Value) (w : World) : Sem.run Tryz.prog (Instr.typeAssert (.iface 167 v) 130 173 true) w = .ok (.tuple #[.agg #[.int .i64 0], .bool false]) w := by kernel_rfl
theorem ta_same_go (v : Value) (w : World) : Sem.run Tryz.prog (Instr.typeAssert (.iface 167 v) 130 164 true) w = .ok (.tuple #[.agg #[.int .i64 0], .bool false]) w := by kernel_rfl
theorem ta_same_set (v : Value) (w : World) : Sem.run Tryz.prog (Instr.typeAssert (.iface 167 v) 130 156 true) w = .ok (.tuple #[.agg #[.int .i64 0, .int .i64 0], .bool false]) w := by kernel_rfl
theorem ta_same_move (v : Value) (w : World) : Sem.run Tryz.prog (Instr.typeAssert (.iface 167 v) 130 158 true) w = .ok (.tuple #[.agg #[.int .i64 0, .int .i64 0], .bool false]) w := by kernel_rfl
theorem ta_same_ask (v : Value) (w : World) : Sem.run Tryz.prog (Instr.typeAssert (.iface 167 v) 130 160 true) w = .ok (.tuple #[.agg #[.int .i64 0, .int .i64 0], .bool false]) w := by kernel_rfl
theorem ta_same_put (v : Value) (w : World) : Sem.run Tryz.prog (Instr.typeAssert (.iface 167 v) 130 175 true) w = .ok (.tuple #[.agg #[.int .i64 0, .int .i64 0], .bool false]) w := by kernel_rfl
theorem ta_same_get (v : Value) (w : World) : Sem.run Tryz.prog (Instr.typeAssert (.iface 167 v) 130 177 true) w = .ok (.tuple #[.agg #[.int .i64 0, .int .i64 0], .bool false]) w := by kernel_rfl
theorem ta_call_back (v : Value) (w : World) : Sem.run Tryz.prog (Instr.typeAssert (.iface 169 v) 130 171 true) w = .ok (.tuple #[.agg #[.int .i64 0], .bool false]) w := by kernel_rfl
theorem ta_call_hold (v : Value) (w : World) : Sem.run Tryz.prog (Instr.typeAssert (.iface 169 v) 130 173 true) w = .ok (.tuple #[.agg #[.int .i64 0], .bool false]) w := by kernel_rfl
theorem ta_call_go (v : Value) (w : World) : Sem.run Tryz.prog (Instr.typeAssert (.iface 169 v) 130 164 true) w = .ok (.tuple #[.agg #[.int .i64 0], .bool false]) w := by kernel_rfl
theorem ta_call_set (v : Value) (w : World) : Sem.run Tryz.prog (Instr.typeAssert (.iface 169 v) 130 156 true) w = .ok (.tuple #[.agg #[.int .i64 0, .int .i64 0], .bool false]) w := by kernel_rfl
theorem ta_call_move (v : Value) (w : World) : Sem.run Tryz.prog (Instr.typeAssert (.iface 169 v) 130 158 true) w = .ok (.tuple #[.agg #[.int .i64 0, .int .i64 0], .bool false]) w := by kernel_rfl
theorem ta_call_ask (v : Value) (w : World) : Sem.run Tryz.prog (Instr.typeAssert (.iface 169 v) 130 160 true) w = .ok (.tuple #[.agg #[.int .i64 0, .int .i64 0], .bool false]) w := by kernel_rfl
theorem ta_call_put (v : Value) (w : World) : Sem.run Tryz.prog (Instr.typeAssert (.iface 169 v) 130 175 true) w = .ok (.tuple #[.agg #[.int .i64 0, .int .i64 0], .bool false]) w := by kernel_rfl
theorem ta_call_get (v : Value) (w : World) : Sem.run Tryz.prog (Instr.typeAssert (.iface 169 v) 130 177 true) w = .ok (.tuple #[.agg #[.int .i64 0, .int .i64 0], .bool false]) w := by kernel_rfl
theorem ta_back_back (v : Value) (w : World) : Sem.run Tryz.prog (Instr.typeAssert (.iface 171 v) 130 171 true) w = .ok (.tuple #[v, .bool true]) w := by kernel_rfl
theorem ta_back_hold (v : Value) (w : World) : Sem.run Tryz.prog (Instr.typeAssert (.iface 171 v) 130 173 true) w = .ok (.tuple #[.agg #[.int .i64 0], .bool false]) w := by kernel_rfl
theorem ta_back_go (v : Value) (w : World) : Sem.run Tryz.prog (Instr.typeAssert (.iface 171 v) 130 164 true) w = .ok (.tuple #[.agg #[.int .i64 0], .bool false]) w := by kernel_rfl
theorem ta_back_set (v : Value) (w : World) : Sem.run Tryz.prog (Instr.typeAssert (.iface 171 v) 130 156 true) w = .ok (.tuple #[.agg #[.int .i64 0, .int .i64 0], .bool false]) w := by kernel_rfl
theorem ta_back_move (v : Value) (w : World) : Sem.run Tryz.prog (Instr.typeAssert (.iface 171 v) 130 158 true) w = .ok (.tuple #[.agg #[.int .i64 0, .int .i64 0], .bool false]) w := by kernel_rfl
theorem ta_back_ask (v : Value) (w : World) : Sem.run Tryz.prog (Instr.typeAssert (.iface 171 v) 130 160 true) w = .ok (.tuple #[.agg #[.int .i64 0, .int .i64 0], .bool false]) w := by kernel_rfl
theorem ta_back_put (v : Value) (w : World) : Sem.run Tryz.prog (Instr.typeAssert (.iface 171 v) 130 175 true) w = .ok (.tuple #[.agg #[.int .i64 0, .int .i64 0], .bool false]) w := by kernel_rfl
theorem ta_back_get (v : Value) (w : World) : Sem.run Tryz.prog (Instr.typeAssert (.iface 171 v) 130 177 true) w = .ok (.tuple #[.agg #[.int .i64 0, .int .i64 0], .bool false]) w := by kernel_rfl
theorem ta_hold_back (v : Value) (w : World) : Sem.run Tryz.prog (Instr.typeAssert (.iface 173 v) 130 171 true) w = .ok (.tuple #[.agg #[.int .i64 0], .bool false]) w := by kernel_rfl
theorem ta_hold_hold (v : Value) (w : World) : Sem.run Tryz.prog (Instr.typeAssert (.iface 173 v) 130 173 true) w = .ok (.tuple #[v, .bool true]) w := by kernel_rfl
theorem ta_hold_go (v : Value) (w : World) : Sem.run Tryz.prog (Instr.typeAssert (.iface 173 v) 130 164 true) w = .ok (.tuple #[.agg #[.int .i64 0], .bool false]) w := by kernel_rfl
theorem ta_hold_set (v : Value) (w : World) : Sem.run Tryz.prog (Instr.typeAssert (.iface 173 v) 130 156 true) w = .ok (.tuple #[.agg #[.int .i64 0, .int .i64 0], .bool false]) w := by kernel_rfl
theorem ta_hold_move (v : Value) (w : World) : Sem.run Tryz.prog (Instr.typeAssert (.iface 173 v) 130 158 true) w = .ok (.tuple #[.agg #[.int .i64 0, .int .i64 0], .bool false]) w := by kernel_rfl
theorem ta_hold_ask (v : Value) (w : World) : Sem.run Tryz.prog (Instr.typeAssert (.iface 173 v) 130 160 true) w = .ok (.tuple #[.agg #[.int .i64 0, .int .i64 0], .bool false]) w := by kernel_rfl
theorem ta_hold_put (v : Value) (w : World) : Sem.run Tryz.prog (Instr.typeAssert (.iface 173 v) 130 175 true) w = .ok (.tuple #[.agg #[.int .i64 0, .int .i64 0], .bool false]) w := by kernel_rfl
theorem ta_hold_get (v : Value) (w : World) : Sem.run Tryz.prog (Instr.typeAssert (.iface 173 v) 130 177 true) w = .ok (.tuple #[.agg #[.int .i64 0, .int .i64 0], .bool false]) w := by kernel_rfl
theorem ta_put_back (v : Value) (w : World) : Sem.run Tryz.prog (Instr.typeAssert (.iface 175 v) 130 171 true) w = .ok (.tuple #[.agg #[.int .i64 0], .bool false]) w := by kernel_rfl
theorem ta_put_hold (v : Value) (w : World) : Sem.run Tryz.prog (Instr.typeAssert (.iface 175 v) 130 173 true) w = .ok (.tuple #[.agg #[.int .i64 0], .bool false]) w := by kernel_rfl
theorem ta_put_go (v : Value) (w : World) : Sem.run Tryz.prog (Instr.typeAssert (.iface 175 v) 130 164 true) w = .ok (.tuple #[.agg #[.int .i64 0], .bool false]) w := by kernel_rfl
theorem ta_put_set (v : Value) (w : World) : Sem.run Tryz.prog (Instr.typeAssert (.iface 175 v) 130 156 true) w = .ok (.tuple #[.agg #[.int .i64 0, .int .i64 0], .bool false]) w := by kernel_rfl
theorem ta_put_move (v : Value) (w : World) : Sem.run Tryz.prog (Instr.typeAssert (.iface 175 v) 130 158 true) w = .ok (.tuple #[.agg #[.int .i64 0, .int .i64 0], .bool false]) w := by kernel_rfl
theorem ta_put_ask (v : Value) (w : World) : Sem.run Tryz.prog (Instr.typeAssert (.iface 175 v) 130 160 true) w = .ok (.tuple #[.agg #[.int .i64 0, .int .i64 0], .bool false]) w := by kernel_rfl
theorem ta_put_put (v : Value) (w : World) : Sem.run Tryz.prog (Instr.typeAssert (.iface 175 v) 130 175 true) w = .ok (.tuple #[v, .bool true]) w := by kernel_rfl
theorem ta_put_get (v : Value) (w : World) : Sem.run Tryz.prog (Instr.typeAssert (.iface 175 v) 130 177 true) w = .ok (.tuple #[.agg #[.int .i64 0, .int .i64 0], .bool false]) w := by kernel_rfl
theorem ta_get_back (v : Value) (w : World) : Sem.run Tryz.prog (Instr.typeAssert (.iface 177 v) 130 171 true) w = .ok (.tuple #[.agg #[.int .i64 0], .bool false]) w := by kernel_rfl
theorem ta_get_hold (v : Value) (w : World) : Sem.run Tryz.prog (Instr.typeAssert (.iface 177 v) 130 173 true) w = .ok (.tuple #[.agg #[.int .i64 0], .bool false]) w := by kernel_rfl
theorem ta_get_go (v : Value) (w : World) : Sem.run Tryz.prog (Instr.typeAssert (.iface 177 v) 130 164 true) w = .ok (.tuple #[.agg #[.int .i64 0], .bool false]) w := by kernel_rfl
theorem ta_get_set (v : Value) (w : World) : Sem.run Tryz.prog (Instr.typeAssert (.iface 177 v) 130 156 true) w = .ok (.tuple #[.agg #[.int .i64 0, .int .i64 0], .bool false]) w := by kernel_rfl
theorem ta_get_move (v : Value) (w : World) : Sem.run Tryz.prog (Instr.typeAssert (.iface 177 v) 130 158 true) w = .ok (.tuple #[.agg #[.int .i64 0, .int .i64 0], .bool false]) w := by kernel_rfl
theorem ta_get_ask (v : Value) (w : World) : Sem.run Tryz.prog (Instr.typeAssert (.iface 177 v) 130 160 true) w = .ok (.tuple #[.agg #[.int .i64 0, .int .i64 0], .bool false]) w := by kernel_rfl
theorem ta_get_put (v : Value) (w : World) : Sem.run Tryz.prog (Instr.typeAssert (.iface 177 v) 130 175 true) w = .ok (.tuple #[.agg #[.int .i64 0, .int .i64 0], .bool false]) w := by kernel_rfl
theorem ta_get_get (v : Value) (w : World) : Sem.run Tryz.prog (Instr.typeAssert (.iface 177 v) 130 177 true) w = .ok (.tuple #[v, .bool true]) w := by kernel_rfl
attribute [local go_sem] ta_set_back ta_set_hold ta_set_go ta_set_set ta_set_move ta_set_ask ta_set_put ta_set_get ta_move_back ta_move_hold ta_move_go ta_move_set ta_move_move ta_move_ask ta_move_put ta_move_get ta_ask_back ta_ask_hold ta_ask_go ta_ask_set ta_ask_move ta_ask_ask ta_ask_put ta_ask_get ta_do_back ta_do_hold ta_do_go ta_do_set ta_do_move ta_do_ask ta_do_put ta_do_get ta_go_back ta_go_hold ta_go_go ta_go_set ta_go_move ta_go_ask ta_go_put ta_go_get ta_less_back ta_less_hold ta_less_go ta_less_set ta_less_move ta_less_ask ta_less_put ta_less_get ta_same_back ta_same_hold ta_same_go ta_same_set ta_same_move ta_same_ask ta_same_put ta_same_get ta_call_back ta_call_hold ta_call_go ta_call_set ta_call_move ta_call_ask ta_call_put ta_call_get ta_back_back ta_back_hold ta_back_go ta_back_set ta_back_move ta_back_ask ta_back_put ta_back_get ta_hold_back ta_hold_hold ta_hold_go ta_hold_set ta_hold_move ta_hold_ask ta_hold_put ta_hold_get ta_put_back ta_put_hold ta_put_go ta_put_set ta_put_move ta_put_ask ta_put_put ta_put_get ta_get_back ta_get_hold ta_get_go ta_get_set ta_get_move ta_get_ask ta_get_put ta_get_get

/-- which letters an instruction names -/
def lettersF (K : Int) : ByteArray := if K = 9 ∨ K = 10 then ⟨#[65]⟩ else if K = 5 then ⟨#[67]⟩ else if K = 1 ∨ K = 2 ∨ K = 3 ∨ K = 11 ∨ K = 12 then ⟨#[65, 66]⟩ else ⟨#[65, 66, 67]⟩
set_option maxRecDepth 100000 in
set_option maxHeartbeats 2000000 in
theorem lettersOf_any (i : I4) (w : World) (h1 : 1 ≤ i.1) (h2 : i.1 ≤ 12) :
    Calls Tryz.prog 81 #[ifcF i] w fun e w' => e = .returned (.string (lettersF i.1)) ∧ w' = w := by
  obtain ⟨K, a, b, c⟩ := i
  simp only at h1 h2 ⊢
  obtain rfl | rfl | rfl | rfl | rfl | rfl | rfl | rfl | rfl | rfl | rfl | rfl : K = 1 ∨ K = 2 ∨ K = 3 ∨ K = 4 ∨ K = 5 ∨ K = 6 ∨ K = 7 ∨ K = 8 ∨ K = 9 ∨ K = 10 ∨ K = 11 ∨ K = 12 := by omega
  all_goals
    clear h1 h2
    simp only [ifcF]
    go_enter Tryz.func81, Tryz.ntmps81
    go_wp2
    go_ret
    exact ⟨by first | rfl | simp [lettersF], rfl⟩

end Go.Proofs.YtlkebkajdlgebaaGreat
