/-
  The contracts of the program's small tests on numbers of instructions, and of what each kind of instruction asks of its numbers (fits).
-/
import Derived.Test.YtadlobjpmomfgaaPOkS
namespace Go.Proofs.Ytadlobjpmomfgaa
open Go.RowKit
set_option linter.unusedVariables false
set_option linter.unusedSimpArgs false

theorem isReg_any (n : Int) (w : World) : Calls Try.prog 93 #[.int .i64 n] w fun e w' => e = .returned (.bool (inI n 0 2)) ∧ w' = w := by
  by_cases h1 : 0 ≤ n
  · by_cases h2 : n < 3
    · go_enter Try.func93, Try.ntmps93
      go_wp2
      go_ret
      exact ⟨retBool (by simp [inI]; omega), rfl⟩
    · go_enter Try.func93, Try.ntmps93
      go_wp2
      go_ret
      exact ⟨retBool (by simp [inI]; omega), rfl⟩
  · go_enter Try.func93, Try.ntmps93
    go_wp2
    go_ret
    exact ⟨retBool (by simp [inI]; omega), rfl⟩

theorem isOp_any (n : Int) (w : World) : Calls Try.prog 103 #[.int .i64 n] w fun e w' => e = .returned (.bool (inI n 1 6)) ∧ w' = w := by
  by_cases h1 : 1 ≤ n
  · by_cases h2 : n ≤ 6
    · go_enter Try.func103, Try.ntmps103
      go_wp2
      go_ret
      exact ⟨retBool (by simp [inI]; omega), rfl⟩
    · go_enter Try.func103, Try.ntmps103
      go_wp2
      go_ret
      exact ⟨retBool (by simp [inI]; omega), rfl⟩
  · go_enter Try.func103, Try.ntmps103
    go_wp2
    go_ret
    exact ⟨retBool (by simp [inI]; omega), rfl⟩

theorem isWord_e (n : Int) (w : World) : Calls Try.prog 96 #[.int .i64 n] w fun e w' => e = .returned (.bool (inI n (-16) 15)) ∧ w' = w := by
  by_cases h1 : -16 ≤ n
  · by_cases h2 : n ≤ 15
    · go_enter Try.func96, Try.ntmps96
      go_wp2
      go_ret
      exact ⟨retBool (by simp [inI]; omega), rfl⟩
    · go_enter Try.func96, Try.ntmps96
      go_wp2
      go_ret
      exact ⟨retBool (by simp [inI]; omega), rfl⟩
  · go_enter Try.func96, Try.ntmps96
    go_wp2
    go_ret
    exact ⟨retBool (by simp [inI]; omega), rfl⟩

theorem areRegs_any (a b : Int) (w : World) : Calls Try.prog 92 #[.int .i64 a, .int .i64 b] w fun e w' => e = .returned (.bool (inI a 0 2 && inI b 0 2)) ∧ w' = w := by
  cases g1 : inI a 0 2
  · go_enter Try.func92, Try.ntmps92
    go_wp2_with (go_at_call 93; refine (isReg_any _ _).mono ?_; rintro e w' ⟨rfl, rfl⟩)
    go_ret
    exact ⟨retBool (by simp), rfl⟩
  · go_enter Try.func92, Try.ntmps92
    go_wp2_with (go_at_call 93; refine (isReg_any _ _).mono ?_; rintro e w' ⟨rfl, rfl⟩)
    go_ret
    exact ⟨retBool (by simp), rfl⟩

set_option maxHeartbeats 400000 in
theorem hasPlace_any (p q n : Int) (w : World) : Calls Try.prog 89 #[.agg #[.int .i64 p, .int .i64 q], .int .i64 n] w fun e w' => e = .returned (.bool (inI n 0 q)) ∧ Below w.heap.size w w' := by
  by_cases h1 : 0 ≤ n
  · by_cases h2 : n ≤ q
    · go_enter Try.func89, Try.ntmps89
      go_wp2
      go_ret
      exact ⟨retBool (by simp [inI]; omega), by go_grown⟩
    · go_enter Try.func89, Try.ntmps89
      go_wp2
      go_ret
      exact ⟨retBool (by simp [inI]; omega), by go_grown⟩
  · go_enter Try.func89, Try.ntmps89
    go_wp2
    go_ret
    exact ⟨retBool (by simp [inI]; omega), by go_grown⟩

set_option maxHeartbeats 400000 in
theorem hasProc_any (p q n : Int) (w : World) : Calls Try.prog 41 #[.agg #[.int .i64 p, .int .i64 q], .int .i64 n] w fun e w' => e = .returned (.bool (inI n 0 (p - 1))) ∧ Below w.heap.size w w' := by
  by_cases h1 : 0 ≤ n
  · by_cases h2 : n < p
    · go_enter Try.func41, Try.ntmps41
      go_wp2
      go_ret
      exact ⟨retBool (by simp [inI]; omega), by go_grown⟩
    · go_enter Try.func41, Try.ntmps41
      go_wp2
      go_ret
      exact ⟨retBool (by simp [inI]; omega), by go_grown⟩
  · go_enter Try.func41, Try.ntmps41
    go_wp2
    go_ret
    exact ⟨retBool (by simp [inI]; omega), by go_grown⟩

set_option maxHeartbeats 400000 in
theorem set_fits (a b p q : Int) (w : World) : Calls Try.prog 94 #[.agg #[.int .i64 a, .int .i64 b], .agg #[.int .i64 p, .int .i64 q]] w fun e w' => e = .returned (.bool (inI a 0 2 && inI b (-16) 15)) ∧ Below w.heap.size w w' := by
  cases g1 : inI a 0 2
  · go_enter Try.func94, Try.ntmps94
    go_wp2_with (first | (go_at_call 93; refine (isReg_any _ _).mono ?_; rintro e w' ⟨rfl, rfl⟩) | (go_at_call 103; refine (isOp_any _ _).mono ?_; rintro e w' ⟨rfl, rfl⟩) | (go_at_call 96; refine (isWord_e _ _).mono ?_; rintro e w' ⟨rfl, rfl⟩) | (go_at_call 92; refine (areRegs_any _ _ _).mono ?_; rintro e w' ⟨rfl, rfl⟩) | (go_at_call 89; refine (hasPlace_any _ _ _ _).mono ?_; rintro e w1 ⟨rfl, hb⟩) | (go_at_call 41; refine (hasProc_any _ _ _ _).mono ?_; rintro e w1 ⟨rfl, hb⟩))
    go_ret
    exact ⟨retBool (by first | rfl | (simp; done) | (simp [*]; done)), by first | exact Below.trans (by go_grown) (hb.mono (by go_size)) | go_grown⟩
  · go_enter Try.func94, Try.ntmps94
    go_wp2_with (first | (go_at_call 93; refine (isReg_any _ _).mono ?_; rintro e w' ⟨rfl, rfl⟩) | (go_at_call 103; refine (isOp_any _ _).mono ?_; rintro e w' ⟨rfl, rfl⟩) | (go_at_call 96; refine (isWord_e _ _).mono ?_; rintro e w' ⟨rfl, rfl⟩) | (go_at_call 92; refine (areRegs_any _ _ _).mono ?_; rintro e w' ⟨rfl, rfl⟩) | (go_at_call 89; refine (hasPlace_any _ _ _ _).mono ?_; rintro e w1 ⟨rfl, hb⟩) | (go_at_call 41; refine (hasProc_any _ _ _ _).mono ?_; rintro e w1 ⟨rfl, hb⟩))
    go_ret
    exact ⟨retBool (by first | rfl | (simp; done) | (simp [*]; done)), by first | exact Below.trans (by go_grown) (hb.mono (by go_size)) | go_grown⟩

set_option maxHeartbeats 400000 in
theorem move_fits (a b p q : Int) (w : World) : Calls Try.prog 97 #[.agg #[.int .i64 a, .int .i64 b], .agg #[.int .i64 p, .int .i64 q]] w fun e w' => e = .returned (.bool ((inI a 0 2 && inI b 0 2))) ∧ Below w.heap.size w w' := by
  go_enter Try.func97, Try.ntmps97
  go_wp2_with (first | (go_at_call 93; refine (isReg_any _ _).mono ?_; rintro e w' ⟨rfl, rfl⟩) | (go_at_call 103; refine (isOp_any _ _).mono ?_; rintro e w' ⟨rfl, rfl⟩) | (go_at_call 96; refine (isWord_e _ _).mono ?_; rintro e w' ⟨rfl, rfl⟩) | (go_at_call 92; refine (areRegs_any _ _ _).mono ?_; rintro e w' ⟨rfl, rfl⟩) | (go_at_call 89; refine (hasPlace_any _ _ _ _).mono ?_; rintro e w1 ⟨rfl, hb⟩) | (go_at_call 41; refine (hasProc_any _ _ _ _).mono ?_; rintro e w1 ⟨rfl, hb⟩))
  go_ret
  exact ⟨retBool (by first | rfl | (simp; done) | (simp [*]; done)), by first | exact Below.trans (by go_grown) (hb.mono (by go_size)) | go_grown⟩

set_option maxHeartbeats 400000 in
theorem ask_fits (a b p q : Int) (w : World) : Calls Try.prog 99 #[.agg #[.int .i64 a, .int .i64 b], .agg #[.int .i64 p, .int .i64 q]] w fun e w' => e = .returned (.bool (inI a 0 2 && inI b (-16) 15 && decide (0 ≤ b))) ∧ Below w.heap.size w w' := by
  cases g1 : inI a 0 2
  · go_enter Try.func99, Try.ntmps99
    go_wp2_with (first | (go_at_call 93; refine (isReg_any _ _).mono ?_; rintro e w' ⟨rfl, rfl⟩) | (go_at_call 103; refine (isOp_any _ _).mono ?_; rintro e w' ⟨rfl, rfl⟩) | (go_at_call 96; refine (isWord_e _ _).mono ?_; rintro e w' ⟨rfl, rfl⟩) | (go_at_call 92; refine (areRegs_any _ _ _).mono ?_; rintro e w' ⟨rfl, rfl⟩) | (go_at_call 89; refine (hasPlace_any _ _ _ _).mono ?_; rintro e w1 ⟨rfl, hb⟩) | (go_at_call 41; refine (hasProc_any _ _ _ _).mono ?_; rintro e w1 ⟨rfl, hb⟩))
    go_ret
    exact ⟨retBool (by first | rfl | (simp; done) | (simp [*]; done)), by first | exact Below.trans (by go_grown) (hb.mono (by go_size)) | go_grown⟩
  · cases g2 : inI b (-16) 15
    · go_enter Try.func99, Try.ntmps99
      go_wp2_with (first | (go_at_call 93; refine (isReg_any _ _).mono ?_; rintro e w' ⟨rfl, rfl⟩) | (go_at_call 103; refine (isOp_any _ _).mono ?_; rintro e w' ⟨rfl, rfl⟩) | (go_at_call 96; refine (isWord_e _ _).mono ?_; rintro e w' ⟨rfl, rfl⟩) | (go_at_call 92; refine (areRegs_any _ _ _).mono ?_; rintro e w' ⟨rfl, rfl⟩) | (go_at_call 89; refine (hasPlace_any _ _ _ _).mono ?_; rintro e w1 ⟨rfl, hb⟩) | (go_at_call 41; refine (hasProc_any _ _ _ _).mono ?_; rintro e w1 ⟨rfl, hb⟩))
      go_ret
      exact ⟨retBool (by first | rfl | (simp; done) | (simp [*]; done)), by first | exact Below.trans (by go_grown) (hb.mono (by go_size)) | go_grown⟩
    · go_enter Try.func99, Try.ntmps99
      go_wp2_with (first | (go_at_call 93; refine (isReg_any _ _).mono ?_; rintro e w' ⟨rfl, rfl⟩) | (go_at_call 103; refine (isOp_any _ _).mono ?_; rintro e w' ⟨rfl, rfl⟩) | (go_at_call 96; refine (isWord_e _ _).mono ?_; rintro e w' ⟨rfl, rfl⟩) | (go_at_call 92; refine (areRegs_any _ _ _).mono ?_; rintro e w' ⟨rfl, rfl⟩) | (go_at_call 89; refine (hasPlace_any _ _ _ _).mono ?_; rintro e w1 ⟨rfl, hb⟩) | (go_at_call 41; refine (hasProc_any _ _ _ _).mono ?_; rintro e w1 ⟨rfl, hb⟩))
      go_ret
      exact ⟨retBool (by first | rfl | (simp; done) | (simp [*]; done)), by first | exact Below.trans (by go_grown) (hb.mono (by go_size)) | go_grown⟩

set_option maxHeartbeats 400000 in
theorem do_fits (a b c p q : Int) (w : World) : Calls Try.prog 101 #[.agg #[.int .i64 a, .int .i64 b, .int .i64 c], .agg #[.int .i64 p, .int .i64 q]] w fun e w' => e = .returned (.bool ((inI a 0 2 && inI b 0 2) && inI c 1 6)) ∧ Below w.heap.size w w' := by
  cases g1 : (inI a 0 2 && inI b 0 2)
  · go_enter Try.func101, Try.ntmps101
    go_wp2_with (first | (go_at_call 93; refine (isReg_any _ _).mono ?_; rintro e w' ⟨rfl, rfl⟩) | (go_at_call 103; refine (isOp_any _ _).mono ?_; rintro e w' ⟨rfl, rfl⟩) | (go_at_call 96; refine (isWord_e _ _).mono ?_; rintro e w' ⟨rfl, rfl⟩) | (go_at_call 92; refine (areRegs_any _ _ _).mono ?_; rintro e w' ⟨rfl, rfl⟩) | (go_at_call 89; refine (hasPlace_any _ _ _ _).mono ?_; rintro e w1 ⟨rfl, hb⟩) | (go_at_call 41; refine (hasProc_any _ _ _ _).mono ?_; rintro e w1 ⟨rfl, hb⟩))
    go_ret
    exact ⟨retBool (by first | rfl | (simp; done) | (simp [*]; done)), by first | exact Below.trans (by go_grown) (hb.mono (by go_size)) | go_grown⟩
  · go_enter Try.func101, Try.ntmps101
    go_wp2_with (first | (go_at_call 93; refine (isReg_any _ _).mono ?_; rintro e w' ⟨rfl, rfl⟩) | (go_at_call 103; refine (isOp_any _ _).mono ?_; rintro e w' ⟨rfl, rfl⟩) | (go_at_call 96; refine (isWord_e _ _).mono ?_; rintro e w' ⟨rfl, rfl⟩) | (go_at_call 92; refine (areRegs_any _ _ _).mono ?_; rintro e w' ⟨rfl, rfl⟩) | (go_at_call 89; refine (hasPlace_any _ _ _ _).mono ?_; rintro e w1 ⟨rfl, hb⟩) | (go_at_call 41; refine (hasProc_any _ _ _ _).mono ?_; rintro e w1 ⟨rfl, hb⟩))
    go_ret
    exact ⟨retBool (by first | rfl | (simp; done) | (simp [*]; done)), by first | exact Below.trans (by go_grown) (hb.mono (by go_size)) | go_grown⟩

set_option maxHeartbeats 400000 in
theorem go_fits (c p q : Int) (w : World) : Calls Try.prog 104 #[.agg #[.int .i64 c], .agg #[.int .i64 p, .int .i64 q]] w fun e w' => e = .returned (.bool (inI c 0 q)) ∧ Below w.heap.size w w' := by
  go_enter Try.func104, Try.ntmps104
  go_wp2_with (first | (go_at_call 93; refine (isReg_any _ _).mono ?_; rintro e w' ⟨rfl, rfl⟩) | (go_at_call 103; refine (isOp_any _ _).mono ?_; rintro e w' ⟨rfl, rfl⟩) | (go_at_call 96; refine (isWord_e _ _).mono ?_; rintro e w' ⟨rfl, rfl⟩) | (go_at_call 92; refine (areRegs_any _ _ _).mono ?_; rintro e w' ⟨rfl, rfl⟩) | (go_at_call 89; refine (hasPlace_any _ _ _ _).mono ?_; rintro e w1 ⟨rfl, hb⟩) | (go_at_call 41; refine (hasProc_any _ _ _ _).mono ?_; rintro e w1 ⟨rfl, hb⟩))
  go_ret
  exact ⟨retBool (by first | rfl | (simp; done) | (simp [*]; done)), by first | exact Below.trans (by go_grown) (hb.mono (by go_size)) | go_grown⟩

set_option maxHeartbeats 400000 in
theorem less_fits (a b c p q : Int) (w : World) : Calls Try.prog 106 #[.agg #[.int .i64 a, .int .i64 b, .int .i64 c], .agg #[.int .i64 p, .int .i64 q]] w fun e w' => e = .returned (.bool ((inI a 0 2 && inI b 0 2) && inI c 0 q)) ∧ Below w.heap.size w w' := by
  cases g1 : (inI a 0 2 && inI b 0 2)
  · go_enter Try.func106, Try.ntmps106
    go_wp2_with (first | (go_at_call 93; refine (isReg_any _ _).mono ?_; rintro e w' ⟨rfl, rfl⟩) | (go_at_call 103; refine (isOp_any _ _).mono ?_; rintro e w' ⟨rfl, rfl⟩) | (go_at_call 96; refine (isWord_e _ _).mono ?_; rintro e w' ⟨rfl, rfl⟩) | (go_at_call 92; refine (areRegs_any _ _ _).mono ?_; rintro e w' ⟨rfl, rfl⟩) | (go_at_call 89; refine (hasPlace_any _ _ _ _).mono ?_; rintro e w1 ⟨rfl, hb⟩) | (go_at_call 41; refine (hasProc_any _ _ _ _).mono ?_; rintro e w1 ⟨rfl, hb⟩))
    go_ret
    exact ⟨retBool (by first | rfl | (simp; done) | (simp [*]; done)), by first | exact Below.trans (by go_grown) (hb.mono (by go_size)) | go_grown⟩
  · go_enter Try.func106, Try.ntmps106
    go_wp2_with (first | (go_at_call 93; refine (isReg_any _ _).mono ?_; rintro e w' ⟨rfl, rfl⟩) | (go_at_call 103; refine (isOp_any _ _).mono ?_; rintro e w' ⟨rfl, rfl⟩) | (go_at_call 96; refine (isWord_e _ _).mono ?_; rintro e w' ⟨rfl, rfl⟩) | (go_at_call 92; refine (areRegs_any _ _ _).mono ?_; rintro e w' ⟨rfl, rfl⟩) | (go_at_call 89; refine (hasPlace_any _ _ _ _).mono ?_; rintro e w1 ⟨rfl, hb⟩) | (go_at_call 41; refine (hasProc_any _ _ _ _).mono ?_; rintro e w1 ⟨rfl, hb⟩))
    go_ret
    exact ⟨retBool (by first | rfl | (simp; done) | (simp [*]; done)), by first | exact Below.trans (by go_grown) (hb.mono (by go_size)) | go_grown⟩

set_option maxHeartbeats 400000 in
theorem same_fits (a b c p q : Int) (w : World) : Calls Try.prog 108 #[.agg #[.int .i64 a, .int .i64 b, .int .i64 c], .agg #[.int .i64 p, .int .i64 q]] w fun e w' => e = .returned (.bool ((inI a 0 2 && inI b 0 2) && inI c 0 q)) ∧ Below w.heap.size w w' := by
  cases g1 : (inI a 0 2 && inI b 0 2)
  · go_enter Try.func108, Try.ntmps108
    go_wp2_with (first | (go_at_call 93; refine (isReg_any _ _).mono ?_; rintro e w' ⟨rfl, rfl⟩) | (go_at_call 103; refine (isOp_any _ _).mono ?_; rintro e w' ⟨rfl, rfl⟩) | (go_at_call 96; refine (isWord_e _ _).mono ?_; rintro e w' ⟨rfl, rfl⟩) | (go_at_call 92; refine (areRegs_any _ _ _).mono ?_; rintro e w' ⟨rfl, rfl⟩) | (go_at_call 89; refine (hasPlace_any _ _ _ _).mono ?_; rintro e w1 ⟨rfl, hb⟩) | (go_at_call 41; refine (hasProc_any _ _ _ _).mono ?_; rintro e w1 ⟨rfl, hb⟩))
    go_ret
    exact ⟨retBool (by first | rfl | (simp; done) | (simp [*]; done)), by first | exact Below.trans (by go_grown) (hb.mono (by go_size)) | go_grown⟩
  · go_enter Try.func108, Try.ntmps108
    go_wp2_with (first | (go_at_call 93; refine (isReg_any _ _).mono ?_; rintro e w' ⟨rfl, rfl⟩) | (go_at_call 103; refine (isOp_any _ _).mono ?_; rintro e w' ⟨rfl, rfl⟩) | (go_at_call 96; refine (isWord_e _ _).mono ?_; rintro e w' ⟨rfl, rfl⟩) | (go_at_call 92; refine (areRegs_any _ _ _).mono ?_; rintro e w' ⟨rfl, rfl⟩) | (go_at_call 89; refine (hasPlace_any _ _ _ _).mono ?_; rintro e w1 ⟨rfl, hb⟩) | (go_at_call 41; refine (hasProc_any _ _ _ _).mono ?_; rintro e w1 ⟨rfl, hb⟩))
    go_ret
    exact ⟨retBool (by first | rfl | (simp; done) | (simp [*]; done)), by first | exact Below.trans (by go_grown) (hb.mono (by go_size)) | go_grown⟩

set_option maxHeartbeats 400000 in
theorem call_fits (a b c p q : Int) (w : World) : Calls Try.prog 90 #[.agg #[.int .i64 a, .int .i64 b, .int .i64 c], .agg #[.int .i64 p, .int .i64 q]] w fun e w' => e = .returned (.bool ((inI a 0 2 && inI c 0 2) && inI b 0 (p - 1))) ∧ Below w.heap.size w w' := by
  cases g1 : (inI a 0 2 && inI c 0 2)
  · go_enter Try.func90, Try.ntmps90
    go_wp2_with (first | (go_at_call 93; refine (isReg_any _ _).mono ?_; rintro e w' ⟨rfl, rfl⟩) | (go_at_call 103; refine (isOp_any _ _).mono ?_; rintro e w' ⟨rfl, rfl⟩) | (go_at_call 96; refine (isWord_e _ _).mono ?_; rintro e w' ⟨rfl, rfl⟩) | (go_at_call 92; refine (areRegs_any _ _ _).mono ?_; rintro e w' ⟨rfl, rfl⟩) | (go_at_call 89; refine (hasPlace_any _ _ _ _).mono ?_; rintro e w1 ⟨rfl, hb⟩) | (go_at_call 41; refine (hasProc_any _ _ _ _).mono ?_; rintro e w1 ⟨rfl, hb⟩))
    go_ret
    exact ⟨retBool (by first | rfl | (simp; done) | (simp [*]; done)), by first | exact Below.trans (by go_grown) (hb.mono (by go_size)) | go_grown⟩
  · go_enter Try.func90, Try.ntmps90
    go_wp2_with (first | (go_at_call 93; refine (isReg_any _ _).mono ?_; rintro e w' ⟨rfl, rfl⟩) | (go_at_call 103; refine (isOp_any _ _).mono ?_; rintro e w' ⟨rfl, rfl⟩) | (go_at_call 96; refine (isWord_e _ _).mono ?_; rintro e w' ⟨rfl, rfl⟩) | (go_at_call 92; refine (areRegs_any _ _ _).mono ?_; rintro e w' ⟨rfl, rfl⟩) | (go_at_call 89; refine (hasPlace_any _ _ _ _).mono ?_; rintro e w1 ⟨rfl, hb⟩) | (go_at_call 41; refine (hasProc_any _ _ _ _).mono ?_; rintro e w1 ⟨rfl, hb⟩))
    go_ret
    exact ⟨retBool (by first | rfl | (simp; done) | (simp [*]; done)), by first | exact Below.trans (by go_grown) (hb.mono (by go_size)) | go_grown⟩

set_option maxHeartbeats 400000 in
theorem back_fits (a p q : Int) (w : World) : Calls Try.prog 110 #[.agg #[.int .i64 a], .agg #[.int .i64 p, .int .i64 q]] w fun e w' => e = .returned (.bool (inI a 0 2)) ∧ Below w.heap.size w w' := by
  go_enter Try.func110, Try.ntmps110
  go_wp2_with (first | (go_at_call 93; refine (isReg_any _ _).mono ?_; rintro e w' ⟨rfl, rfl⟩) | (go_at_call 103; refine (isOp_any _ _).mono ?_; rintro e w' ⟨rfl, rfl⟩) | (go_at_call 96; refine (isWord_e _ _).mono ?_; rintro e w' ⟨rfl, rfl⟩) | (go_at_call 92; refine (areRegs_any _ _ _).mono ?_; rintro e w' ⟨rfl, rfl⟩) | (go_at_call 89; refine (hasPlace_any _ _ _ _).mono ?_; rintro e w1 ⟨rfl, hb⟩) | (go_at_call 41; refine (hasProc_any _ _ _ _).mono ?_; rintro e w1 ⟨rfl, hb⟩))
  go_ret
  exact ⟨retBool (by first | rfl | (simp; done) | (simp [*]; done)), by first | exact Below.trans (by go_grown) (hb.mono (by go_size)) | go_grown⟩

set_option maxHeartbeats 400000 in
theorem hold_fits (a p q : Int) (w : World) : Calls Try.prog 112 #[.agg #[.int .i64 a], .agg #[.int .i64 p, .int .i64 q]] w fun e w' => e = .returned (.bool (inI a 0 2)) ∧ Below w.heap.size w w' := by
  go_enter Try.func112, Try.ntmps112
  go_wp2_with (first | (go_at_call 93; refine (isReg_any _ _).mono ?_; rintro e w' ⟨rfl, rfl⟩) | (go_at_call 103; refine (isOp_any _ _).mono ?_; rintro e w' ⟨rfl, rfl⟩) | (go_at_call 96; refine (isWord_e _ _).mono ?_; rintro e w' ⟨rfl, rfl⟩) | (go_at_call 92; refine (areRegs_any _ _ _).mono ?_; rintro e w' ⟨rfl, rfl⟩) | (go_at_call 89; refine (hasPlace_any _ _ _ _).mono ?_; rintro e w1 ⟨rfl, hb⟩) | (go_at_call 41; refine (hasProc_any _ _ _ _).mono ?_; rintro e w1 ⟨rfl, hb⟩))
  go_ret
  exact ⟨retBool (by first | rfl | (simp; done) | (simp [*]; done)), by first | exact Below.trans (by go_grown) (hb.mono (by go_size)) | go_grown⟩

set_option maxHeartbeats 400000 in
theorem put_fits (a b p q : Int) (w : World) : Calls Try.prog 114 #[.agg #[.int .i64 a, .int .i64 b], .agg #[.int .i64 p, .int .i64 q]] w fun e w' => e = .returned (.bool ((inI a 0 2 && inI b 0 2))) ∧ Below w.heap.size w w' := by
  go_enter Try.func114, Try.ntmps114
  go_wp2_with (first | (go_at_call 93; refine (isReg_any _ _).mono ?_; rintro e w' ⟨rfl, rfl⟩) | (go_at_call 103; refine (isOp_any _ _).mono ?_; rintro e w' ⟨rfl, rfl⟩) | (go_at_call 96; refine (isWord_e _ _).mono ?_; rintro e w' ⟨rfl, rfl⟩) | (go_at_call 92; refine (areRegs_any _ _ _).mono ?_; rintro e w' ⟨rfl, rfl⟩) | (go_at_call 89; refine (hasPlace_any _ _ _ _).mono ?_; rintro e w1 ⟨rfl, hb⟩) | (go_at_call 41; refine (hasProc_any _ _ _ _).mono ?_; rintro e w1 ⟨rfl, hb⟩))
  go_ret
  exact ⟨retBool (by first | rfl | (simp; done) | (simp [*]; done)), by first | exact Below.trans (by go_grown) (hb.mono (by go_size)) | go_grown⟩

set_option maxHeartbeats 400000 in
theorem get_fits (a b p q : Int) (w : World) : Calls Try.prog 116 #[.agg #[.int .i64 a, .int .i64 b], .agg #[.int .i64 p, .int .i64 q]] w fun e w' => e = .returned (.bool ((inI a 0 2 && inI b 0 2))) ∧ Below w.heap.size w w' := by
  go_enter Try.func116, Try.ntmps116
  go_wp2_with (first | (go_at_call 93; refine (isReg_any _ _).mono ?_; rintro e w' ⟨rfl, rfl⟩) | (go_at_call 103; refine (isOp_any _ _).mono ?_; rintro e w' ⟨rfl, rfl⟩) | (go_at_call 96; refine (isWord_e _ _).mono ?_; rintro e w' ⟨rfl, rfl⟩) | (go_at_call 92; refine (areRegs_any _ _ _).mono ?_; rintro e w' ⟨rfl, rfl⟩) | (go_at_call 89; refine (hasPlace_any _ _ _ _).mono ?_; rintro e w1 ⟨rfl, hb⟩) | (go_at_call 41; refine (hasProc_any _ _ _ _).mono ?_; rintro e w1 ⟨rfl, hb⟩))
  go_ret
  exact ⟨retBool (by first | rfl | (simp; done) | (simp [*]; done)), by first | exact Below.trans (by go_grown) (hb.mono (by go_size)) | go_grown⟩

end Go.Proofs.Ytadlobjpmomfgaa
