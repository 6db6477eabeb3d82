/-
  The contracts of the program's small tests on numbers of instructions, and of what each kind of instruction asks of its numbers (fits).
-/
import Derived.Test.YtifpijindmdboaaPOkS
namespace Go.Proofs.Ytifpijindmdboaa
open Go.RowKit
set_option linter.unusedVariables false
set_option linter.unusedSimpArgs false

theorem isReg_any (n : Int) (w : World) : Calls Try.prog 110 #[.int .i64 n] w fun e w' => e = .returned (.bool (inI n 0 2)) ∧ w' = w := by
  by_cases h1 : 0 ≤ n
  · by_cases h2 : n < 3
    · go_enter Try.func110, Try.ntmps110
      go_wp2
      go_ret
      exact ⟨retBool (by simp [inI]; omega), rfl⟩
    · go_enter Try.func110, Try.ntmps110
      go_wp2
      go_ret
      exact ⟨retBool (by simp [inI]; omega), rfl⟩
  · go_enter Try.func110, Try.ntmps110
    go_wp2
    go_ret
    exact ⟨retBool (by simp [inI]; omega), rfl⟩

theorem isOp_any (n : Int) (w : World) : Calls Try.prog 169 #[.int .i64 n] w fun e w' => e = .returned (.bool (inI n 1 6)) ∧ w' = w := by
  by_cases h1 : 1 ≤ n
  · by_cases h2 : n ≤ 6
    · go_enter Try.func169, Try.ntmps169
      go_wp2
      go_ret
      exact ⟨retBool (by simp [inI]; omega), rfl⟩
    · go_enter Try.func169, Try.ntmps169
      go_wp2
      go_ret
      exact ⟨retBool (by simp [inI]; omega), rfl⟩
  · go_enter Try.func169, Try.ntmps169
    go_wp2
    go_ret
    exact ⟨retBool (by simp [inI]; omega), rfl⟩

theorem isWord_e (n : Int) (w : World) : Calls Try.prog 108 #[.int .i64 n] w fun e w' => e = .returned (.bool (inI n (-16) 15)) ∧ w' = w := by
  by_cases h1 : -16 ≤ n
  · by_cases h2 : n ≤ 15
    · go_enter Try.func108, Try.ntmps108
      go_wp2
      go_ret
      exact ⟨retBool (by simp [inI]; omega), rfl⟩
    · go_enter Try.func108, Try.ntmps108
      go_wp2
      go_ret
      exact ⟨retBool (by simp [inI]; omega), rfl⟩
  · go_enter Try.func108, Try.ntmps108
    go_wp2
    go_ret
    exact ⟨retBool (by simp [inI]; omega), rfl⟩

theorem areRegs_any (a b : Int) (w : World) : Calls Try.prog 159 #[.int .i64 a, .int .i64 b] w fun e w' => e = .returned (.bool (inI a 0 2 && inI b 0 2)) ∧ w' = w := by
  cases g1 : inI a 0 2
  · go_enter Try.func159, Try.ntmps159
    go_wp2_with (go_at_call 110; refine (isReg_any _ _).mono ?_; rintro e w' ⟨rfl, rfl⟩)
    go_ret
    exact ⟨retBool (by simp), rfl⟩
  · go_enter Try.func159, Try.ntmps159
    go_wp2_with (go_at_call 110; refine (isReg_any _ _).mono ?_; rintro e w' ⟨rfl, rfl⟩)
    go_ret
    exact ⟨retBool (by simp), rfl⟩

set_option maxHeartbeats 400000 in
theorem hasPlace_any (p q n : Int) (w : World) : Calls Try.prog 84 #[.agg #[.int .i64 p, .int .i64 q], .int .i64 n] w fun e w' => e = .returned (.bool (inI n 0 q)) ∧ Below w.heap.size w w' := by
  by_cases h1 : 0 ≤ n
  · by_cases h2 : n ≤ q
    · go_enter Try.func84, Try.ntmps84
      go_wp2
      go_ret
      exact ⟨retBool (by simp [inI]; omega), by go_grown⟩
    · go_enter Try.func84, Try.ntmps84
      go_wp2
      go_ret
      exact ⟨retBool (by simp [inI]; omega), by go_grown⟩
  · go_enter Try.func84, Try.ntmps84
    go_wp2
    go_ret
    exact ⟨retBool (by simp [inI]; omega), by go_grown⟩

set_option maxHeartbeats 400000 in
theorem hasProc_any (p q n : Int) (w : World) : Calls Try.prog 107 #[.agg #[.int .i64 p, .int .i64 q], .int .i64 n] w fun e w' => e = .returned (.bool (inI n 0 (p - 1))) ∧ Below w.heap.size w w' := by
  by_cases h1 : 0 ≤ n
  · by_cases h2 : n < p
    · go_enter Try.func107, Try.ntmps107
      go_wp2
      go_ret
      exact ⟨retBool (by simp [inI]; omega), by go_grown⟩
    · go_enter Try.func107, Try.ntmps107
      go_wp2
      go_ret
      exact ⟨retBool (by simp [inI]; omega), by go_grown⟩
  · go_enter Try.func107, Try.ntmps107
    go_wp2
    go_ret
    exact ⟨retBool (by simp [inI]; omega), by go_grown⟩

set_option maxHeartbeats 400000 in
theorem set_fits (a b p q : Int) (w : World) : Calls Try.prog 163 #[.agg #[.int .i64 a, .int .i64 b], .agg #[.int .i64 p, .int .i64 q]] w fun e w' => e = .returned (.bool (inI a 0 2 && inI b (-16) 15)) ∧ Below w.heap.size w w' := by
  cases g1 : inI a 0 2
  · go_enter Try.func163, Try.ntmps163
    go_wp2_with (first | (go_at_call 110; refine (isReg_any _ _).mono ?_; rintro e w' ⟨rfl, rfl⟩) | (go_at_call 169; refine (isOp_any _ _).mono ?_; rintro e w' ⟨rfl, rfl⟩) | (go_at_call 108; refine (isWord_e _ _).mono ?_; rintro e w' ⟨rfl, rfl⟩) | (go_at_call 159; refine (areRegs_any _ _ _).mono ?_; rintro e w' ⟨rfl, rfl⟩) | (go_at_call 84; refine (hasPlace_any _ _ _ _).mono ?_; rintro e w1 ⟨rfl, hb⟩) | (go_at_call 107; refine (hasProc_any _ _ _ _).mono ?_; rintro e w1 ⟨rfl, hb⟩))
    go_ret
    exact ⟨retBool (by first | rfl | (simp; done) | (simp [*]; done)), by first | exact Below.trans (by go_grown) (hb.mono (by go_size)) | go_grown⟩
  · go_enter Try.func163, Try.ntmps163
    go_wp2_with (first | (go_at_call 110; refine (isReg_any _ _).mono ?_; rintro e w' ⟨rfl, rfl⟩) | (go_at_call 169; refine (isOp_any _ _).mono ?_; rintro e w' ⟨rfl, rfl⟩) | (go_at_call 108; refine (isWord_e _ _).mono ?_; rintro e w' ⟨rfl, rfl⟩) | (go_at_call 159; refine (areRegs_any _ _ _).mono ?_; rintro e w' ⟨rfl, rfl⟩) | (go_at_call 84; refine (hasPlace_any _ _ _ _).mono ?_; rintro e w1 ⟨rfl, hb⟩) | (go_at_call 107; refine (hasProc_any _ _ _ _).mono ?_; rintro e w1 ⟨rfl, hb⟩))
    go_ret
    exact ⟨retBool (by first | rfl | (simp; done) | (simp [*]; done)), by first | exact Below.trans (by go_grown) (hb.mono (by go_size)) | go_grown⟩

set_option maxHeartbeats 400000 in
theorem move_fits (a b p q : Int) (w : World) : Calls Try.prog 165 #[.agg #[.int .i64 a, .int .i64 b], .agg #[.int .i64 p, .int .i64 q]] w fun e w' => e = .returned (.bool ((inI a 0 2 && inI b 0 2))) ∧ Below w.heap.size w w' := by
  go_enter Try.func165, Try.ntmps165
  go_wp2_with (first | (go_at_call 110; refine (isReg_any _ _).mono ?_; rintro e w' ⟨rfl, rfl⟩) | (go_at_call 169; refine (isOp_any _ _).mono ?_; rintro e w' ⟨rfl, rfl⟩) | (go_at_call 108; refine (isWord_e _ _).mono ?_; rintro e w' ⟨rfl, rfl⟩) | (go_at_call 159; refine (areRegs_any _ _ _).mono ?_; rintro e w' ⟨rfl, rfl⟩) | (go_at_call 84; refine (hasPlace_any _ _ _ _).mono ?_; rintro e w1 ⟨rfl, hb⟩) | (go_at_call 107; refine (hasProc_any _ _ _ _).mono ?_; rintro e w1 ⟨rfl, hb⟩))
  go_ret
  exact ⟨retBool (by first | rfl | (simp; done) | (simp [*]; done)), by first | exact Below.trans (by go_grown) (hb.mono (by go_size)) | go_grown⟩

set_option maxHeartbeats 400000 in
theorem ask_fits (a b p q : Int) (w : World) : Calls Try.prog 160 #[.agg #[.int .i64 a, .int .i64 b], .agg #[.int .i64 p, .int .i64 q]] w fun e w' => e = .returned (.bool (inI a 0 2 && inI b (-16) 15 && decide (0 ≤ b))) ∧ Below w.heap.size w w' := by
  cases g1 : inI a 0 2
  · go_enter Try.func160, Try.ntmps160
    go_wp2_with (first | (go_at_call 110; refine (isReg_any _ _).mono ?_; rintro e w' ⟨rfl, rfl⟩) | (go_at_call 169; refine (isOp_any _ _).mono ?_; rintro e w' ⟨rfl, rfl⟩) | (go_at_call 108; refine (isWord_e _ _).mono ?_; rintro e w' ⟨rfl, rfl⟩) | (go_at_call 159; refine (areRegs_any _ _ _).mono ?_; rintro e w' ⟨rfl, rfl⟩) | (go_at_call 84; refine (hasPlace_any _ _ _ _).mono ?_; rintro e w1 ⟨rfl, hb⟩) | (go_at_call 107; refine (hasProc_any _ _ _ _).mono ?_; rintro e w1 ⟨rfl, hb⟩))
    go_ret
    exact ⟨retBool (by first | rfl | (simp; done) | (simp [*]; done)), by first | exact Below.trans (by go_grown) (hb.mono (by go_size)) | go_grown⟩
  · cases g2 : inI b (-16) 15
    · go_enter Try.func160, Try.ntmps160
      go_wp2_with (first | (go_at_call 110; refine (isReg_any _ _).mono ?_; rintro e w' ⟨rfl, rfl⟩) | (go_at_call 169; refine (isOp_any _ _).mono ?_; rintro e w' ⟨rfl, rfl⟩) | (go_at_call 108; refine (isWord_e _ _).mono ?_; rintro e w' ⟨rfl, rfl⟩) | (go_at_call 159; refine (areRegs_any _ _ _).mono ?_; rintro e w' ⟨rfl, rfl⟩) | (go_at_call 84; refine (hasPlace_any _ _ _ _).mono ?_; rintro e w1 ⟨rfl, hb⟩) | (go_at_call 107; refine (hasProc_any _ _ _ _).mono ?_; rintro e w1 ⟨rfl, hb⟩))
      go_ret
      exact ⟨retBool (by first | rfl | (simp; done) | (simp [*]; done)), by first | exact Below.trans (by go_grown) (hb.mono (by go_size)) | go_grown⟩
    · go_enter Try.func160, Try.ntmps160
      go_wp2_with (first | (go_at_call 110; refine (isReg_any _ _).mono ?_; rintro e w' ⟨rfl, rfl⟩) | (go_at_call 169; refine (isOp_any _ _).mono ?_; rintro e w' ⟨rfl, rfl⟩) | (go_at_call 108; refine (isWord_e _ _).mono ?_; rintro e w' ⟨rfl, rfl⟩) | (go_at_call 159; refine (areRegs_any _ _ _).mono ?_; rintro e w' ⟨rfl, rfl⟩) | (go_at_call 84; refine (hasPlace_any _ _ _ _).mono ?_; rintro e w1 ⟨rfl, hb⟩) | (go_at_call 107; refine (hasProc_any _ _ _ _).mono ?_; rintro e w1 ⟨rfl, hb⟩))
      go_ret
      exact ⟨retBool (by first | rfl | (simp; done) | (simp [*]; done)), by first | exact Below.trans (by go_grown) (hb.mono (by go_size)) | go_grown⟩

set_option maxHeartbeats 400000 in
theorem do_fits (a b c p q : Int) (w : World) : Calls Try.prog 167 #[.agg #[.int .i64 a, .int .i64 b, .int .i64 c], .agg #[.int .i64 p, .int .i64 q]] w fun e w' => e = .returned (.bool ((inI a 0 2 && inI b 0 2) && inI c 1 6)) ∧ Below w.heap.size w w' := by
  cases g1 : (inI a 0 2 && inI b 0 2)
  · go_enter Try.func167, Try.ntmps167
    go_wp2_with (first | (go_at_call 110; refine (isReg_any _ _).mono ?_; rintro e w' ⟨rfl, rfl⟩) | (go_at_call 169; refine (isOp_any _ _).mono ?_; rintro e w' ⟨rfl, rfl⟩) | (go_at_call 108; refine (isWord_e _ _).mono ?_; rintro e w' ⟨rfl, rfl⟩) | (go_at_call 159; refine (areRegs_any _ _ _).mono ?_; rintro e w' ⟨rfl, rfl⟩) | (go_at_call 84; refine (hasPlace_any _ _ _ _).mono ?_; rintro e w1 ⟨rfl, hb⟩) | (go_at_call 107; refine (hasProc_any _ _ _ _).mono ?_; rintro e w1 ⟨rfl, hb⟩))
    go_ret
    exact ⟨retBool (by first | rfl | (simp; done) | (simp [*]; done)), by first | exact Below.trans (by go_grown) (hb.mono (by go_size)) | go_grown⟩
  · go_enter Try.func167, Try.ntmps167
    go_wp2_with (first | (go_at_call 110; refine (isReg_any _ _).mono ?_; rintro e w' ⟨rfl, rfl⟩) | (go_at_call 169; refine (isOp_any _ _).mono ?_; rintro e w' ⟨rfl, rfl⟩) | (go_at_call 108; refine (isWord_e _ _).mono ?_; rintro e w' ⟨rfl, rfl⟩) | (go_at_call 159; refine (areRegs_any _ _ _).mono ?_; rintro e w' ⟨rfl, rfl⟩) | (go_at_call 84; refine (hasPlace_any _ _ _ _).mono ?_; rintro e w1 ⟨rfl, hb⟩) | (go_at_call 107; refine (hasProc_any _ _ _ _).mono ?_; rintro e w1 ⟨rfl, hb⟩))
    go_ret
    exact ⟨retBool (by first | rfl | (simp; done) | (simp [*]; done)), by first | exact Below.trans (by go_grown) (hb.mono (by go_size)) | go_grown⟩

set_option maxHeartbeats 400000 in
theorem go_fits (c p q : Int) (w : World) : Calls Try.prog 170 #[.agg #[.int .i64 c], .agg #[.int .i64 p, .int .i64 q]] w fun e w' => e = .returned (.bool (inI c 0 q)) ∧ Below w.heap.size w w' := by
  go_enter Try.func170, Try.ntmps170
  go_wp2_with (first | (go_at_call 110; refine (isReg_any _ _).mono ?_; rintro e w' ⟨rfl, rfl⟩) | (go_at_call 169; refine (isOp_any _ _).mono ?_; rintro e w' ⟨rfl, rfl⟩) | (go_at_call 108; refine (isWord_e _ _).mono ?_; rintro e w' ⟨rfl, rfl⟩) | (go_at_call 159; refine (areRegs_any _ _ _).mono ?_; rintro e w' ⟨rfl, rfl⟩) | (go_at_call 84; refine (hasPlace_any _ _ _ _).mono ?_; rintro e w1 ⟨rfl, hb⟩) | (go_at_call 107; refine (hasProc_any _ _ _ _).mono ?_; rintro e w1 ⟨rfl, hb⟩))
  go_ret
  exact ⟨retBool (by first | rfl | (simp; done) | (simp [*]; done)), by first | exact Below.trans (by go_grown) (hb.mono (by go_size)) | go_grown⟩

set_option maxHeartbeats 400000 in
theorem less_fits (a b c p q : Int) (w : World) : Calls Try.prog 172 #[.agg #[.int .i64 a, .int .i64 b, .int .i64 c], .agg #[.int .i64 p, .int .i64 q]] w fun e w' => e = .returned (.bool ((inI a 0 2 && inI b 0 2) && inI c 0 q)) ∧ Below w.heap.size w w' := by
  cases g1 : (inI a 0 2 && inI b 0 2)
  · go_enter Try.func172, Try.ntmps172
    go_wp2_with (first | (go_at_call 110; refine (isReg_any _ _).mono ?_; rintro e w' ⟨rfl, rfl⟩) | (go_at_call 169; refine (isOp_any _ _).mono ?_; rintro e w' ⟨rfl, rfl⟩) | (go_at_call 108; refine (isWord_e _ _).mono ?_; rintro e w' ⟨rfl, rfl⟩) | (go_at_call 159; refine (areRegs_any _ _ _).mono ?_; rintro e w' ⟨rfl, rfl⟩) | (go_at_call 84; refine (hasPlace_any _ _ _ _).mono ?_; rintro e w1 ⟨rfl, hb⟩) | (go_at_call 107; refine (hasProc_any _ _ _ _).mono ?_; rintro e w1 ⟨rfl, hb⟩))
    go_ret
    exact ⟨retBool (by first | rfl | (simp; done) | (simp [*]; done)), by first | exact Below.trans (by go_grown) (hb.mono (by go_size)) | go_grown⟩
  · go_enter Try.func172, Try.ntmps172
    go_wp2_with (first | (go_at_call 110; refine (isReg_any _ _).mono ?_; rintro e w' ⟨rfl, rfl⟩) | (go_at_call 169; refine (isOp_any _ _).mono ?_; rintro e w' ⟨rfl, rfl⟩) | (go_at_call 108; refine (isWord_e _ _).mono ?_; rintro e w' ⟨rfl, rfl⟩) | (go_at_call 159; refine (areRegs_any _ _ _).mono ?_; rintro e w' ⟨rfl, rfl⟩) | (go_at_call 84; refine (hasPlace_any _ _ _ _).mono ?_; rintro e w1 ⟨rfl, hb⟩) | (go_at_call 107; refine (hasProc_any _ _ _ _).mono ?_; rintro e w1 ⟨rfl, hb⟩))
    go_ret
    exact ⟨retBool (by first | rfl | (simp; done) | (simp [*]; done)), by first | exact Below.trans (by go_grown) (hb.mono (by go_size)) | go_grown⟩

set_option maxHeartbeats 400000 in
theorem same_fits (a b c p q : Int) (w : World) : Calls Try.prog 174 #[.agg #[.int .i64 a, .int .i64 b, .int .i64 c], .agg #[.int .i64 p, .int .i64 q]] w fun e w' => e = .returned (.bool ((inI a 0 2 && inI b 0 2) && inI c 0 q)) ∧ Below w.heap.size w w' := by
  cases g1 : (inI a 0 2 && inI b 0 2)
  · go_enter Try.func174, Try.ntmps174
    go_wp2_with (first | (go_at_call 110; refine (isReg_any _ _).mono ?_; rintro e w' ⟨rfl, rfl⟩) | (go_at_call 169; refine (isOp_any _ _).mono ?_; rintro e w' ⟨rfl, rfl⟩) | (go_at_call 108; refine (isWord_e _ _).mono ?_; rintro e w' ⟨rfl, rfl⟩) | (go_at_call 159; refine (areRegs_any _ _ _).mono ?_; rintro e w' ⟨rfl, rfl⟩) | (go_at_call 84; refine (hasPlace_any _ _ _ _).mono ?_; rintro e w1 ⟨rfl, hb⟩) | (go_at_call 107; refine (hasProc_any _ _ _ _).mono ?_; rintro e w1 ⟨rfl, hb⟩))
    go_ret
    exact ⟨retBool (by first | rfl | (simp; done) | (simp [*]; done)), by first | exact Below.trans (by go_grown) (hb.mono (by go_size)) | go_grown⟩
  · go_enter Try.func174, Try.ntmps174
    go_wp2_with (first | (go_at_call 110; refine (isReg_any _ _).mono ?_; rintro e w' ⟨rfl, rfl⟩) | (go_at_call 169; refine (isOp_any _ _).mono ?_; rintro e w' ⟨rfl, rfl⟩) | (go_at_call 108; refine (isWord_e _ _).mono ?_; rintro e w' ⟨rfl, rfl⟩) | (go_at_call 159; refine (areRegs_any _ _ _).mono ?_; rintro e w' ⟨rfl, rfl⟩) | (go_at_call 84; refine (hasPlace_any _ _ _ _).mono ?_; rintro e w1 ⟨rfl, hb⟩) | (go_at_call 107; refine (hasProc_any _ _ _ _).mono ?_; rintro e w1 ⟨rfl, hb⟩))
    go_ret
    exact ⟨retBool (by first | rfl | (simp; done) | (simp [*]; done)), by first | exact Below.trans (by go_grown) (hb.mono (by go_size)) | go_grown⟩

set_option maxHeartbeats 400000 in
theorem call_fits (a b c p q : Int) (w : World) : Calls Try.prog 157 #[.agg #[.int .i64 a, .int .i64 b, .int .i64 c], .agg #[.int .i64 p, .int .i64 q]] w fun e w' => e = .returned (.bool ((inI a 0 2 && inI c 0 2) && inI b 0 (p - 1))) ∧ Below w.heap.size w w' := by
  cases g1 : (inI a 0 2 && inI c 0 2)
  · go_enter Try.func157, Try.ntmps157
    go_wp2_with (first | (go_at_call 110; refine (isReg_any _ _).mono ?_; rintro e w' ⟨rfl, rfl⟩) | (go_at_call 169; refine (isOp_any _ _).mono ?_; rintro e w' ⟨rfl, rfl⟩) | (go_at_call 108; refine (isWord_e _ _).mono ?_; rintro e w' ⟨rfl, rfl⟩) | (go_at_call 159; refine (areRegs_any _ _ _).mono ?_; rintro e w' ⟨rfl, rfl⟩) | (go_at_call 84; refine (hasPlace_any _ _ _ _).mono ?_; rintro e w1 ⟨rfl, hb⟩) | (go_at_call 107; refine (hasProc_any _ _ _ _).mono ?_; rintro e w1 ⟨rfl, hb⟩))
    go_ret
    exact ⟨retBool (by first | rfl | (simp; done) | (simp [*]; done)), by first | exact Below.trans (by go_grown) (hb.mono (by go_size)) | go_grown⟩
  · go_enter Try.func157, Try.ntmps157
    go_wp2_with (first | (go_at_call 110; refine (isReg_any _ _).mono ?_; rintro e w' ⟨rfl, rfl⟩) | (go_at_call 169; refine (isOp_any _ _).mono ?_; rintro e w' ⟨rfl, rfl⟩) | (go_at_call 108; refine (isWord_e _ _).mono ?_; rintro e w' ⟨rfl, rfl⟩) | (go_at_call 159; refine (areRegs_any _ _ _).mono ?_; rintro e w' ⟨rfl, rfl⟩) | (go_at_call 84; refine (hasPlace_any _ _ _ _).mono ?_; rintro e w1 ⟨rfl, hb⟩) | (go_at_call 107; refine (hasProc_any _ _ _ _).mono ?_; rintro e w1 ⟨rfl, hb⟩))
    go_ret
    exact ⟨retBool (by first | rfl | (simp; done) | (simp [*]; done)), by first | exact Below.trans (by go_grown) (hb.mono (by go_size)) | go_grown⟩

set_option maxHeartbeats 400000 in
theorem back_fits (a p q : Int) (w : World) : Calls Try.prog 155 #[.agg #[.int .i64 a], .agg #[.int .i64 p, .int .i64 q]] w fun e w' => e = .returned (.bool (inI a 0 2)) ∧ Below w.heap.size w w' := by
  go_enter Try.func155, Try.ntmps155
  go_wp2_with (first | (go_at_call 110; refine (isReg_any _ _).mono ?_; rintro e w' ⟨rfl, rfl⟩) | (go_at_call 169; refine (isOp_any _ _).mono ?_; rintro e w' ⟨rfl, rfl⟩) | (go_at_call 108; refine (isWord_e _ _).mono ?_; rintro e w' ⟨rfl, rfl⟩) | (go_at_call 159; refine (areRegs_any _ _ _).mono ?_; rintro e w' ⟨rfl, rfl⟩) | (go_at_call 84; refine (hasPlace_any _ _ _ _).mono ?_; rintro e w1 ⟨rfl, hb⟩) | (go_at_call 107; refine (hasProc_any _ _ _ _).mono ?_; rintro e w1 ⟨rfl, hb⟩))
  go_ret
  exact ⟨retBool (by first | rfl | (simp; done) | (simp [*]; done)), by first | exact Below.trans (by go_grown) (hb.mono (by go_size)) | go_grown⟩

set_option maxHeartbeats 400000 in
theorem hold_fits (a p q : Int) (w : World) : Calls Try.prog 176 #[.agg #[.int .i64 a], .agg #[.int .i64 p, .int .i64 q]] w fun e w' => e = .returned (.bool (inI a 0 2)) ∧ Below w.heap.size w w' := by
  go_enter Try.func176, Try.ntmps176
  go_wp2_with (first | (go_at_call 110; refine (isReg_any _ _).mono ?_; rintro e w' ⟨rfl, rfl⟩) | (go_at_call 169; refine (isOp_any _ _).mono ?_; rintro e w' ⟨rfl, rfl⟩) | (go_at_call 108; refine (isWord_e _ _).mono ?_; rintro e w' ⟨rfl, rfl⟩) | (go_at_call 159; refine (areRegs_any _ _ _).mono ?_; rintro e w' ⟨rfl, rfl⟩) | (go_at_call 84; refine (hasPlace_any _ _ _ _).mono ?_; rintro e w1 ⟨rfl, hb⟩) | (go_at_call 107; refine (hasProc_any _ _ _ _).mono ?_; rintro e w1 ⟨rfl, hb⟩))
  go_ret
  exact ⟨retBool (by first | rfl | (simp; done) | (simp [*]; done)), by first | exact Below.trans (by go_grown) (hb.mono (by go_size)) | go_grown⟩

set_option maxHeartbeats 400000 in
theorem put_fits (a b p q : Int) (w : World) : Calls Try.prog 178 #[.agg #[.int .i64 a, .int .i64 b], .agg #[.int .i64 p, .int .i64 q]] w fun e w' => e = .returned (.bool ((inI a 0 2 && inI b 0 2))) ∧ Below w.heap.size w w' := by
  go_enter Try.func178, Try.ntmps178
  go_wp2_with (first | (go_at_call 110; refine (isReg_any _ _).mono ?_; rintro e w' ⟨rfl, rfl⟩) | (go_at_call 169; refine (isOp_any _ _).mono ?_; rintro e w' ⟨rfl, rfl⟩) | (go_at_call 108; refine (isWord_e _ _).mono ?_; rintro e w' ⟨rfl, rfl⟩) | (go_at_call 159; refine (areRegs_any _ _ _).mono ?_; rintro e w' ⟨rfl, rfl⟩) | (go_at_call 84; refine (hasPlace_any _ _ _ _).mono ?_; rintro e w1 ⟨rfl, hb⟩) | (go_at_call 107; refine (hasProc_any _ _ _ _).mono ?_; rintro e w1 ⟨rfl, hb⟩))
  go_ret
  exact ⟨retBool (by first | rfl | (simp; done) | (simp [*]; done)), by first | exact Below.trans (by go_grown) (hb.mono (by go_size)) | go_grown⟩

set_option maxHeartbeats 400000 in
theorem get_fits (a b p q : Int) (w : World) : Calls Try.prog 180 #[.agg #[.int .i64 a, .int .i64 b], .agg #[.int .i64 p, .int .i64 q]] w fun e w' => e = .returned (.bool ((inI a 0 2 && inI b 0 2))) ∧ Below w.heap.size w w' := by
  go_enter Try.func180, Try.ntmps180
  go_wp2_with (first | (go_at_call 110; refine (isReg_any _ _).mono ?_; rintro e w' ⟨rfl, rfl⟩) | (go_at_call 169; refine (isOp_any _ _).mono ?_; rintro e w' ⟨rfl, rfl⟩) | (go_at_call 108; refine (isWord_e _ _).mono ?_; rintro e w' ⟨rfl, rfl⟩) | (go_at_call 159; refine (areRegs_any _ _ _).mono ?_; rintro e w' ⟨rfl, rfl⟩) | (go_at_call 84; refine (hasPlace_any _ _ _ _).mono ?_; rintro e w1 ⟨rfl, hb⟩) | (go_at_call 107; refine (hasProc_any _ _ _ _).mono ?_; rintro e w1 ⟨rfl, hb⟩))
  go_ret
  exact ⟨retBool (by first | rfl | (simp; done) | (simp [*]; done)), by first | exact Below.trans (by go_grown) (hb.mono (by go_size)) | go_grown⟩

end Go.Proofs.Ytifpijindmdboaa
