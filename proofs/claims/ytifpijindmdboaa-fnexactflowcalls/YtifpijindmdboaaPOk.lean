/-
  Whether an instruction, and a program, is ok: the plain functions, and the contract of the model's l2Ins.
-/
import Derived.Test.YtifpijindmdboaaPEq2
namespace Go.Proofs.Ytifpijindmdboaa
open Go.RowKit
set_option linter.unusedVariables false
set_option linter.unusedSimpArgs false

def inI (n lo hi : Int) : Bool := decide (lo ≤ n ∧ n ≤ hi)
def insOkF (i : I4) (size procs : Int) : Bool :=
  let a := inI i.2.1 0 2
  let b := inI i.2.2.1 0 2
  if i.1 = 1 then a && inI i.2.2.1 (-16) 15 && decide (i.2.2.2 = 0)
  else if i.1 = 3 then a && inI i.2.2.1 0 15 && decide (i.2.2.2 = 0)
  else if i.1 = 2 ∨ i.1 = 11 ∨ i.1 = 12 then a && b && decide (i.2.2.2 = 0)
  else if i.1 = 4 then a && b && inI i.2.2.2 1 6
  else if i.1 = 5 then decide (i.2.1 = 0) && decide (i.2.2.1 = 0) && inI i.2.2.2 0 size
  else if i.1 = 6 ∨ i.1 = 7 then a && b && inI i.2.2.2 0 size
  else if i.1 = 8 then a && inI i.2.2.1 0 (procs - 1) && inI i.2.2.2 0 2
  else if i.1 = 9 ∨ i.1 = 10 then a && decide (i.2.2.1 = 0) && decide (i.2.2.2 = 0)
  else false
theorem retBool {a b : Bool} (h : a = b) : Ending.returned (.bool a) = .returned (.bool b) := by rw [h]

theorem l6In_e (n lo hi : Int) (w : World) : Calls Try.prog 73 #[.int .i64 n, .int .i64 lo, .int .i64 hi] w fun e w' => e = .returned (.bool (inI n lo hi)) ∧ w' = w := by
  by_cases h1 : lo ≤ n
  · by_cases h2 : n ≤ hi
    · go_enter Try.func73, Try.ntmps73
      go_wp2
      go_ret
      exact ⟨retBool (by simp [inI]; omega), rfl⟩
    · go_enter Try.func73, Try.ntmps73
      go_wp2
      go_ret
      exact ⟨retBool (by simp [inI]; omega), rfl⟩
  · go_enter Try.func73, Try.ntmps73
    go_wp2
    go_ret
    exact ⟨retBool (by simp [inI]; omega), rfl⟩
theorem l1Word_e (n : Int) (w : World) : Calls Try.prog 104 #[.int .i64 n] w fun e w' => e = .returned (.bool (inI n (-16) 15)) ∧ w' = w := by
  go_enter Try.func104, Try.ntmps104
  go_wp2_with (go_at_call 73; refine (l6In_e _ _ _ _).mono ?_; rintro e w' ⟨rfl, rfl⟩)
  go_ret
  exact ⟨retBool rfl, rfl⟩

set_option maxHeartbeats 4000000 in
theorem l2Ins_any (i : I4) (size procs : Int) (w : World) (h1 : 0 ≤ procs) (h2 : procs ≤ 1048576) :
    Calls Try.prog 95 #[aggI i, .int .i64 size, .int .i64 procs] w fun e w' => e = .returned (.bool (insOkF i size procs)) ∧ Below w.heap.size w w' := by
  obtain ⟨K, a, b, c⟩ := i
  unfold aggI
  simp only
  by_cases hK : 1 ≤ K ∧ K ≤ 12
  · obtain rfl | rfl | rfl | rfl | rfl | rfl | rfl | rfl | rfl | rfl | rfl | rfl : K = 1 ∨ K = 2 ∨ K = 3 ∨ K = 4 ∨ K = 5 ∨ K = 6 ∨ K = 7 ∨ K = 8 ∨ K = 9 ∨ K = 10 ∨ K = 11 ∨ K = 12 := by omega
    all_goals clear hK
    · have hr : insOkF (1, a, b, c) size procs = (inI a 0 2 && inI b (-16) 15 && decide (c = 0)) := by simp [insOkF]
      rw [hr]
      clear hr
      cases g1 : inI a 0 2
      · simp only [Bool.false_and]
        go_enter Try.func95, Try.ntmps95
        go_wp2_with (first | (go_at_call 73; refine (l6In_e _ _ _ _).mono ?_; rintro e w' ⟨rfl, rfl⟩) | (go_at_call 104; refine (l1Word_e _ _).mono ?_; rintro e w' ⟨rfl, rfl⟩))
        go_ret
        exact ⟨retBool (by first | rfl | (simp; done) | (simp [Bool.eq_iff_iff]; done)), by go_grown⟩
      · simp only [Bool.true_and]
        cases g2 : inI b (-16) 15
        · simp only [Bool.false_and]
          go_enter Try.func95, Try.ntmps95
          go_wp2_with (first | (go_at_call 73; refine (l6In_e _ _ _ _).mono ?_; rintro e w' ⟨rfl, rfl⟩) | (go_at_call 104; refine (l1Word_e _ _).mono ?_; rintro e w' ⟨rfl, rfl⟩))
          go_ret
          exact ⟨retBool (by first | rfl | (simp; done) | (simp [Bool.eq_iff_iff]; done)), by go_grown⟩
        · simp only [Bool.true_and]
          go_enter Try.func95, Try.ntmps95
          go_wp2_with (first | (go_at_call 73; refine (l6In_e _ _ _ _).mono ?_; rintro e w' ⟨rfl, rfl⟩) | (go_at_call 104; refine (l1Word_e _ _).mono ?_; rintro e w' ⟨rfl, rfl⟩))
          go_ret
          exact ⟨retBool (by first | rfl | (simp; done) | (simp [Bool.eq_iff_iff]; done)), by go_grown⟩
    · have hr : insOkF (2, a, b, c) size procs = (inI a 0 2 && inI b 0 2 && decide (c = 0)) := by simp [insOkF]
      rw [hr]
      clear hr
      cases g1 : inI a 0 2
      · simp only [Bool.false_and]
        go_enter Try.func95, Try.ntmps95
        go_wp2_with (first | (go_at_call 73; refine (l6In_e _ _ _ _).mono ?_; rintro e w' ⟨rfl, rfl⟩) | (go_at_call 104; refine (l1Word_e _ _).mono ?_; rintro e w' ⟨rfl, rfl⟩))
        go_ret
        exact ⟨retBool (by first | rfl | (simp; done) | (simp [Bool.eq_iff_iff]; done)), by go_grown⟩
      · simp only [Bool.true_and]
        cases g2 : inI b 0 2
        · simp only [Bool.false_and]
          go_enter Try.func95, Try.ntmps95
          go_wp2_with (first | (go_at_call 73; refine (l6In_e _ _ _ _).mono ?_; rintro e w' ⟨rfl, rfl⟩) | (go_at_call 104; refine (l1Word_e _ _).mono ?_; rintro e w' ⟨rfl, rfl⟩))
          go_ret
          exact ⟨retBool (by first | rfl | (simp; done) | (simp [Bool.eq_iff_iff]; done)), by go_grown⟩
        · simp only [Bool.true_and]
          go_enter Try.func95, Try.ntmps95
          go_wp2_with (first | (go_at_call 73; refine (l6In_e _ _ _ _).mono ?_; rintro e w' ⟨rfl, rfl⟩) | (go_at_call 104; refine (l1Word_e _ _).mono ?_; rintro e w' ⟨rfl, rfl⟩))
          go_ret
          exact ⟨retBool (by first | rfl | (simp; done) | (simp [Bool.eq_iff_iff]; done)), by go_grown⟩
    · have hr : insOkF (3, a, b, c) size procs = (inI a 0 2 && inI b 0 15 && decide (c = 0)) := by simp [insOkF]
      rw [hr]
      clear hr
      cases g1 : inI a 0 2
      · simp only [Bool.false_and]
        go_enter Try.func95, Try.ntmps95
        go_wp2_with (first | (go_at_call 73; refine (l6In_e _ _ _ _).mono ?_; rintro e w' ⟨rfl, rfl⟩) | (go_at_call 104; refine (l1Word_e _ _).mono ?_; rintro e w' ⟨rfl, rfl⟩))
        go_ret
        exact ⟨retBool (by first | rfl | (simp; done) | (simp [Bool.eq_iff_iff]; done)), by go_grown⟩
      · simp only [Bool.true_and]
        cases g2 : inI b 0 15
        · simp only [Bool.false_and]
          go_enter Try.func95, Try.ntmps95
          go_wp2_with (first | (go_at_call 73; refine (l6In_e _ _ _ _).mono ?_; rintro e w' ⟨rfl, rfl⟩) | (go_at_call 104; refine (l1Word_e _ _).mono ?_; rintro e w' ⟨rfl, rfl⟩))
          go_ret
          exact ⟨retBool (by first | rfl | (simp; done) | (simp [Bool.eq_iff_iff]; done)), by go_grown⟩
        · simp only [Bool.true_and]
          go_enter Try.func95, Try.ntmps95
          go_wp2_with (first | (go_at_call 73; refine (l6In_e _ _ _ _).mono ?_; rintro e w' ⟨rfl, rfl⟩) | (go_at_call 104; refine (l1Word_e _ _).mono ?_; rintro e w' ⟨rfl, rfl⟩))
          go_ret
          exact ⟨retBool (by first | rfl | (simp; done) | (simp [Bool.eq_iff_iff]; done)), by go_grown⟩
    · have hr : insOkF (4, a, b, c) size procs = (inI a 0 2 && inI b 0 2 && inI c 1 6) := by simp [insOkF]
      rw [hr]
      clear hr
      cases g1 : inI a 0 2
      · simp only [Bool.false_and]
        go_enter Try.func95, Try.ntmps95
        go_wp2_with (first | (go_at_call 73; refine (l6In_e _ _ _ _).mono ?_; rintro e w' ⟨rfl, rfl⟩) | (go_at_call 104; refine (l1Word_e _ _).mono ?_; rintro e w' ⟨rfl, rfl⟩))
        go_ret
        exact ⟨retBool (by first | rfl | (simp; done) | (simp [Bool.eq_iff_iff]; done)), by go_grown⟩
      · simp only [Bool.true_and]
        cases g2 : inI b 0 2
        · simp only [Bool.false_and]
          go_enter Try.func95, Try.ntmps95
          go_wp2_with (first | (go_at_call 73; refine (l6In_e _ _ _ _).mono ?_; rintro e w' ⟨rfl, rfl⟩) | (go_at_call 104; refine (l1Word_e _ _).mono ?_; rintro e w' ⟨rfl, rfl⟩))
          go_ret
          exact ⟨retBool (by first | rfl | (simp; done) | (simp [Bool.eq_iff_iff]; done)), by go_grown⟩
        · simp only [Bool.true_and]
          go_enter Try.func95, Try.ntmps95
          go_wp2_with (first | (go_at_call 73; refine (l6In_e _ _ _ _).mono ?_; rintro e w' ⟨rfl, rfl⟩) | (go_at_call 104; refine (l1Word_e _ _).mono ?_; rintro e w' ⟨rfl, rfl⟩))
          go_ret
          exact ⟨retBool (by first | rfl | (simp; done) | (simp [Bool.eq_iff_iff]; done)), by go_grown⟩
    · have hr : insOkF (5, a, b, c) size procs = (decide (a = 0) && decide (b = 0) && inI c 0 size) := by simp [insOkF]
      rw [hr]
      clear hr
      cases g1 : decide (a = 0)
      · have g1' : (a == 0) = false := by simpa using g1
        simp only [Bool.false_and]
        clear g1
        go_enter Try.func95, Try.ntmps95
        go_wp2_with (first | (go_at_call 73; refine (l6In_e _ _ _ _).mono ?_; rintro e w' ⟨rfl, rfl⟩) | (go_at_call 104; refine (l1Word_e _ _).mono ?_; rintro e w' ⟨rfl, rfl⟩))
        go_ret
        exact ⟨retBool (by first | rfl | (simp; done) | (simp [Bool.eq_iff_iff]; done)), by go_grown⟩
      · have g1' : (a == 0) = true := by simpa using g1
        simp only [Bool.true_and]
        clear g1
        cases g2 : decide (b = 0)
        · have g2' : (b == 0) = false := by simpa using g2
          simp only [Bool.false_and]
          clear g2
          go_enter Try.func95, Try.ntmps95
          go_wp2_with (first | (go_at_call 73; refine (l6In_e _ _ _ _).mono ?_; rintro e w' ⟨rfl, rfl⟩) | (go_at_call 104; refine (l1Word_e _ _).mono ?_; rintro e w' ⟨rfl, rfl⟩))
          go_ret
          exact ⟨retBool (by first | rfl | (simp; done) | (simp [Bool.eq_iff_iff]; done)), by go_grown⟩
        · have g2' : (b == 0) = true := by simpa using g2
          simp only [Bool.true_and]
          clear g2
          go_enter Try.func95, Try.ntmps95
          go_wp2_with (first | (go_at_call 73; refine (l6In_e _ _ _ _).mono ?_; rintro e w' ⟨rfl, rfl⟩) | (go_at_call 104; refine (l1Word_e _ _).mono ?_; rintro e w' ⟨rfl, rfl⟩))
          go_ret
          exact ⟨retBool (by first | rfl | (simp; done) | (simp [Bool.eq_iff_iff]; done)), by go_grown⟩
    · have hr : insOkF (6, a, b, c) size procs = (inI a 0 2 && inI b 0 2 && inI c 0 size) := by simp [insOkF]
      rw [hr]
      clear hr
      cases g1 : inI a 0 2
      · simp only [Bool.false_and]
        go_enter Try.func95, Try.ntmps95
        go_wp2_with (first | (go_at_call 73; refine (l6In_e _ _ _ _).mono ?_; rintro e w' ⟨rfl, rfl⟩) | (go_at_call 104; refine (l1Word_e _ _).mono ?_; rintro e w' ⟨rfl, rfl⟩))
        go_ret
        exact ⟨retBool (by first | rfl | (simp; done) | (simp [Bool.eq_iff_iff]; done)), by go_grown⟩
      · simp only [Bool.true_and]
        cases g2 : inI b 0 2
        · simp only [Bool.false_and]
          go_enter Try.func95, Try.ntmps95
          go_wp2_with (first | (go_at_call 73; refine (l6In_e _ _ _ _).mono ?_; rintro e w' ⟨rfl, rfl⟩) | (go_at_call 104; refine (l1Word_e _ _).mono ?_; rintro e w' ⟨rfl, rfl⟩))
          go_ret
          exact ⟨retBool (by first | rfl | (simp; done) | (simp [Bool.eq_iff_iff]; done)), by go_grown⟩
        · simp only [Bool.true_and]
          go_enter Try.func95, Try.ntmps95
          go_wp2_with (first | (go_at_call 73; refine (l6In_e _ _ _ _).mono ?_; rintro e w' ⟨rfl, rfl⟩) | (go_at_call 104; refine (l1Word_e _ _).mono ?_; rintro e w' ⟨rfl, rfl⟩))
          go_ret
          exact ⟨retBool (by first | rfl | (simp; done) | (simp [Bool.eq_iff_iff]; done)), by go_grown⟩
    · have hr : insOkF (7, a, b, c) size procs = (inI a 0 2 && inI b 0 2 && inI c 0 size) := by simp [insOkF]
      rw [hr]
      clear hr
      cases g1 : inI a 0 2
      · simp only [Bool.false_and]
        go_enter Try.func95, Try.ntmps95
        go_wp2_with (first | (go_at_call 73; refine (l6In_e _ _ _ _).mono ?_; rintro e w' ⟨rfl, rfl⟩) | (go_at_call 104; refine (l1Word_e _ _).mono ?_; rintro e w' ⟨rfl, rfl⟩))
        go_ret
        exact ⟨retBool (by first | rfl | (simp; done) | (simp [Bool.eq_iff_iff]; done)), by go_grown⟩
      · simp only [Bool.true_and]
        cases g2 : inI b 0 2
        · simp only [Bool.false_and]
          go_enter Try.func95, Try.ntmps95
          go_wp2_with (first | (go_at_call 73; refine (l6In_e _ _ _ _).mono ?_; rintro e w' ⟨rfl, rfl⟩) | (go_at_call 104; refine (l1Word_e _ _).mono ?_; rintro e w' ⟨rfl, rfl⟩))
          go_ret
          exact ⟨retBool (by first | rfl | (simp; done) | (simp [Bool.eq_iff_iff]; done)), by go_grown⟩
        · simp only [Bool.true_and]
          go_enter Try.func95, Try.ntmps95
          go_wp2_with (first | (go_at_call 73; refine (l6In_e _ _ _ _).mono ?_; rintro e w' ⟨rfl, rfl⟩) | (go_at_call 104; refine (l1Word_e _ _).mono ?_; rintro e w' ⟨rfl, rfl⟩))
          go_ret
          exact ⟨retBool (by first | rfl | (simp; done) | (simp [Bool.eq_iff_iff]; done)), by go_grown⟩
    · have hr : insOkF (8, a, b, c) size procs = (inI a 0 2 && inI b 0 (procs - 1) && inI c 0 2) := by simp [insOkF]
      rw [hr]
      clear hr
      cases g1 : inI a 0 2
      · simp only [Bool.false_and]
        go_enter Try.func95, Try.ntmps95
        go_wp2_with (first | (go_at_call 73; refine (l6In_e _ _ _ _).mono ?_; rintro e w' ⟨rfl, rfl⟩) | (go_at_call 104; refine (l1Word_e _ _).mono ?_; rintro e w' ⟨rfl, rfl⟩))
        go_ret
        exact ⟨retBool (by first | rfl | (simp; done) | (simp [Bool.eq_iff_iff]; done)), by go_grown⟩
      · simp only [Bool.true_and]
        cases g2 : inI b 0 (procs - 1)
        · simp only [Bool.false_and]
          go_enter Try.func95, Try.ntmps95
          go_wp2_with (first | (go_at_call 73; refine (l6In_e _ _ _ _).mono ?_; rintro e w' ⟨rfl, rfl⟩) | (go_at_call 104; refine (l1Word_e _ _).mono ?_; rintro e w' ⟨rfl, rfl⟩))
          go_ret
          exact ⟨retBool (by first | rfl | (simp; done) | (simp [Bool.eq_iff_iff]; done)), by go_grown⟩
        · simp only [Bool.true_and]
          go_enter Try.func95, Try.ntmps95
          go_wp2_with (first | (go_at_call 73; refine (l6In_e _ _ _ _).mono ?_; rintro e w' ⟨rfl, rfl⟩) | (go_at_call 104; refine (l1Word_e _ _).mono ?_; rintro e w' ⟨rfl, rfl⟩))
          go_ret
          exact ⟨retBool (by first | rfl | (simp; done) | (simp [Bool.eq_iff_iff]; done)), by go_grown⟩
    · have hr : insOkF (9, a, b, c) size procs = (inI a 0 2 && decide (b = 0) && decide (c = 0)) := by simp [insOkF]
      rw [hr]
      clear hr
      cases g1 : inI a 0 2
      · simp only [Bool.false_and]
        go_enter Try.func95, Try.ntmps95
        go_wp2_with (first | (go_at_call 73; refine (l6In_e _ _ _ _).mono ?_; rintro e w' ⟨rfl, rfl⟩) | (go_at_call 104; refine (l1Word_e _ _).mono ?_; rintro e w' ⟨rfl, rfl⟩))
        go_ret
        exact ⟨retBool (by first | rfl | (simp; done) | (simp [Bool.eq_iff_iff]; done)), by go_grown⟩
      · simp only [Bool.true_and]
        cases g2 : decide (b = 0)
        · have g2' : (b == 0) = false := by simpa using g2
          simp only [Bool.false_and]
          clear g2
          go_enter Try.func95, Try.ntmps95
          go_wp2_with (first | (go_at_call 73; refine (l6In_e _ _ _ _).mono ?_; rintro e w' ⟨rfl, rfl⟩) | (go_at_call 104; refine (l1Word_e _ _).mono ?_; rintro e w' ⟨rfl, rfl⟩))
          go_ret
          exact ⟨retBool (by first | rfl | (simp; done) | (simp [Bool.eq_iff_iff]; done)), by go_grown⟩
        · have g2' : (b == 0) = true := by simpa using g2
          simp only [Bool.true_and]
          clear g2
          go_enter Try.func95, Try.ntmps95
          go_wp2_with (first | (go_at_call 73; refine (l6In_e _ _ _ _).mono ?_; rintro e w' ⟨rfl, rfl⟩) | (go_at_call 104; refine (l1Word_e _ _).mono ?_; rintro e w' ⟨rfl, rfl⟩))
          go_ret
          exact ⟨retBool (by first | rfl | (simp; done) | (simp [Bool.eq_iff_iff]; done)), by go_grown⟩
    · have hr : insOkF (10, a, b, c) size procs = (inI a 0 2 && decide (b = 0) && decide (c = 0)) := by simp [insOkF]
      rw [hr]
      clear hr
      cases g1 : inI a 0 2
      · simp only [Bool.false_and]
        go_enter Try.func95, Try.ntmps95
        go_wp2_with (first | (go_at_call 73; refine (l6In_e _ _ _ _).mono ?_; rintro e w' ⟨rfl, rfl⟩) | (go_at_call 104; refine (l1Word_e _ _).mono ?_; rintro e w' ⟨rfl, rfl⟩))
        go_ret
        exact ⟨retBool (by first | rfl | (simp; done) | (simp [Bool.eq_iff_iff]; done)), by go_grown⟩
      · simp only [Bool.true_and]
        cases g2 : decide (b = 0)
        · have g2' : (b == 0) = false := by simpa using g2
          simp only [Bool.false_and]
          clear g2
          go_enter Try.func95, Try.ntmps95
          go_wp2_with (first | (go_at_call 73; refine (l6In_e _ _ _ _).mono ?_; rintro e w' ⟨rfl, rfl⟩) | (go_at_call 104; refine (l1Word_e _ _).mono ?_; rintro e w' ⟨rfl, rfl⟩))
          go_ret
          exact ⟨retBool (by first | rfl | (simp; done) | (simp [Bool.eq_iff_iff]; done)), by go_grown⟩
        · have g2' : (b == 0) = true := by simpa using g2
          simp only [Bool.true_and]
          clear g2
          go_enter Try.func95, Try.ntmps95
          go_wp2_with (first | (go_at_call 73; refine (l6In_e _ _ _ _).mono ?_; rintro e w' ⟨rfl, rfl⟩) | (go_at_call 104; refine (l1Word_e _ _).mono ?_; rintro e w' ⟨rfl, rfl⟩))
          go_ret
          exact ⟨retBool (by first | rfl | (simp; done) | (simp [Bool.eq_iff_iff]; done)), by go_grown⟩
    · have hr : insOkF (11, a, b, c) size procs = (inI a 0 2 && inI b 0 2 && decide (c = 0)) := by simp [insOkF]
      rw [hr]
      clear hr
      cases g1 : inI a 0 2
      · simp only [Bool.false_and]
        go_enter Try.func95, Try.ntmps95
        go_wp2_with (first | (go_at_call 73; refine (l6In_e _ _ _ _).mono ?_; rintro e w' ⟨rfl, rfl⟩) | (go_at_call 104; refine (l1Word_e _ _).mono ?_; rintro e w' ⟨rfl, rfl⟩))
        go_ret
        exact ⟨retBool (by first | rfl | (simp; done) | (simp [Bool.eq_iff_iff]; done)), by go_grown⟩
      · simp only [Bool.true_and]
        cases g2 : inI b 0 2
        · simp only [Bool.false_and]
          go_enter Try.func95, Try.ntmps95
          go_wp2_with (first | (go_at_call 73; refine (l6In_e _ _ _ _).mono ?_; rintro e w' ⟨rfl, rfl⟩) | (go_at_call 104; refine (l1Word_e _ _).mono ?_; rintro e w' ⟨rfl, rfl⟩))
          go_ret
          exact ⟨retBool (by first | rfl | (simp; done) | (simp [Bool.eq_iff_iff]; done)), by go_grown⟩
        · simp only [Bool.true_and]
          go_enter Try.func95, Try.ntmps95
          go_wp2_with (first | (go_at_call 73; refine (l6In_e _ _ _ _).mono ?_; rintro e w' ⟨rfl, rfl⟩) | (go_at_call 104; refine (l1Word_e _ _).mono ?_; rintro e w' ⟨rfl, rfl⟩))
          go_ret
          exact ⟨retBool (by first | rfl | (simp; done) | (simp [Bool.eq_iff_iff]; done)), by go_grown⟩
    · have hr : insOkF (12, a, b, c) size procs = (inI a 0 2 && inI b 0 2 && decide (c = 0)) := by simp [insOkF]
      rw [hr]
      clear hr
      cases g1 : inI a 0 2
      · simp only [Bool.false_and]
        go_enter Try.func95, Try.ntmps95
        go_wp2_with (first | (go_at_call 73; refine (l6In_e _ _ _ _).mono ?_; rintro e w' ⟨rfl, rfl⟩) | (go_at_call 104; refine (l1Word_e _ _).mono ?_; rintro e w' ⟨rfl, rfl⟩))
        go_ret
        exact ⟨retBool (by first | rfl | (simp; done) | (simp [Bool.eq_iff_iff]; done)), by go_grown⟩
      · simp only [Bool.true_and]
        cases g2 : inI b 0 2
        · simp only [Bool.false_and]
          go_enter Try.func95, Try.ntmps95
          go_wp2_with (first | (go_at_call 73; refine (l6In_e _ _ _ _).mono ?_; rintro e w' ⟨rfl, rfl⟩) | (go_at_call 104; refine (l1Word_e _ _).mono ?_; rintro e w' ⟨rfl, rfl⟩))
          go_ret
          exact ⟨retBool (by first | rfl | (simp; done) | (simp [Bool.eq_iff_iff]; done)), by go_grown⟩
        · simp only [Bool.true_and]
          go_enter Try.func95, Try.ntmps95
          go_wp2_with (first | (go_at_call 73; refine (l6In_e _ _ _ _).mono ?_; rintro e w' ⟨rfl, rfl⟩) | (go_at_call 104; refine (l1Word_e _ _).mono ?_; rintro e w' ⟨rfl, rfl⟩))
          go_ret
          exact ⟨retBool (by first | rfl | (simp; done) | (simp [Bool.eq_iff_iff]; done)), by go_grown⟩
  · have e1 : (K == 1) = false := by simp; omega
    have e2 : (K == 2) = false := by simp; omega
    have e3 : (K == 3) = false := by simp; omega
    have e4 : (K == 4) = false := by simp; omega
    have e5 : (K == 5) = false := by simp; omega
    have e6 : (K == 6) = false := by simp; omega
    have e7 : (K == 7) = false := by simp; omega
    have e8 : (K == 8) = false := by simp; omega
    have e9 : (K == 9) = false := by simp; omega
    have e10 : (K == 10) = false := by simp; omega
    have e11 : (K == 11) = false := by simp; omega
    have e12 : (K == 12) = false := by simp; omega
    have hr : insOkF (K, a, b, c) size procs = false := by
      unfold insOkF; simp only; repeat' split
      all_goals first | rfl | omega
    rw [hr]
    clear hr hK
    go_enter Try.func95, Try.ntmps95
    go_wp2_with (go_at_call 73; refine (l6In_e _ _ _ _).mono ?_; rintro e w' ⟨rfl, rfl⟩)
    go_ret
    exact ⟨rfl, by go_grown⟩

end Go.Proofs.Ytifpijindmdboaa
