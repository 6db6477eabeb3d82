import Derived.Test.YtlkebkajdlgebaaGreatB6
/-
  Whether an instruction, and a program, is ok: the plain functions, and the contract of the model's l2Ins.
-/
namespace Go.Proofs.YtlkebkajdlgebaaGreat
open Go.RowKit
set_option linter.unusedVariables false
set_option linter.unusedSimpArgs false

def inI (n lo hi : Int) : Bool := decide (lo ≤ n ∧ n ≤ hi)
def insOkF (i : I4) (size procs : Int) : Bool :=
  let a := inI i.2.1 0 2
  let b := inI i.2.2.1 0 2
  if i.1 = 1 then a && inI i.2.2.1 (-16) 15 && decide (i.2.2.2 = 0)
  else if i.1 = 3 then a && inI i.2.2.1 0 15 && decide (i.2.2.2 = 0)
  else if i.1 = 2 ∨ i.1 = 11 ∨ i.1 = 12 then a && b && decide (i.2.2.2 = 0)
  else if i.1 = 4 then a && b && inI i.2.2.2 1 6
  else if i.1 = 5 then decide (i.2.1 = 0) && decide (i.2.2.1 = 0) && inI i.2.2.2 0 size
  else if i.1 = 6 ∨ i.1 = 7 then a && b && inI i.2.2.2 0 size
  else if i.1 = 8 then a && inI i.2.2.1 0 (procs - 1) && inI i.2.2.2 0 2
  else if i.1 = 9 ∨ i.1 = 10 then a && decide (i.2.2.1 = 0) && decide (i.2.2.2 = 0)
  else false
theorem retBool {a b : Bool} (h : a = b) : Ending.returned (.bool a) = .returned (.bool b) := by rw [h]

theorem l6In_e (n lo hi : Int) (w : World) : Calls Tryz.prog 48 #[.int .i64 n, .int .i64 lo, .int .i64 hi] w fun e w' => e = .returned (.bool (inI n lo hi)) ∧ w' = w := by
  by_cases h1 : lo ≤ n
  · by_cases h2 : n ≤ hi
    · go_enter Tryz.func48, Tryz.ntmps48
      go_wp2
      go_ret
      exact ⟨retBool (by simp [inI]; omega), rfl⟩
    · go_enter Tryz.func48, Tryz.ntmps48
      go_wp2
      go_ret
      exact ⟨retBool (by simp [inI]; omega), rfl⟩
  · go_enter Tryz.func48, Tryz.ntmps48
    go_wp2
    go_ret
    exact ⟨retBool (by simp [inI]; omega), rfl⟩
theorem l1Word_e (n : Int) (w : World) : Calls Tryz.prog 73 #[.int .i64 n] w fun e w' => e = .returned (.bool (inI n (-16) 15)) ∧ w' = w := by
  go_enter Tryz.func73, Tryz.ntmps73
  go_wp2_with (go_at_call 48; refine (l6In_e _ _ _ _).mono ?_; rintro e w' ⟨rfl, rfl⟩)
  go_ret
  exact ⟨retBool rfl, rfl⟩

set_option maxHeartbeats 4000000 in
theorem l2Ins_any (i : I4) (size procs : Int) (w : World) (h1 : 0 ≤ procs) (h2 : procs ≤ 1048576) :
    Calls Tryz.prog 62 #[aggI i, .int .i64 size, .int .i64 procs] w fun e w' => e = .returned (.bool (insOkF i size procs)) ∧ Below w.heap.size w w' := by
  obtain ⟨K, a, b, c⟩ := i
  unfold aggI
  simp only
  by_cases hK : 1 ≤ K ∧ K ≤ 12
  · obtain rfl | rfl | rfl | rfl | rfl | rfl | rfl | rfl | rfl | rfl | rfl | rfl : K = 1 ∨ K = 2 ∨ K = 3 ∨ K = 4 ∨ K = 5 ∨ K = 6 ∨ K = 7 ∨ K = 8 ∨ K = 9 ∨ K = 10 ∨ K = 11 ∨ K = 12 := by omega
    all_goals clear hK
    · have hr : insOkF (1, a, b, c) size procs = (inI a 0 2 && inI b (-16) 15 && decide (c = 0)) := by simp [insOkF]
      rw [hr]
      clear hr
      cases g1 : inI a 0 2
      · simp only [Bool.false_and]
        go_enter Tryz.func62, Tryz.ntmps62
        go_wp2_with (first | (go_at_call 48; refine (l6In_e _ _ _ _).mono ?_; rintro e w' ⟨rfl, rfl⟩) | (go_at_call 73; refine (l1Word_e _ _).mono ?_; rintro e w' ⟨rfl, rfl⟩))
        go_ret
        exact ⟨retBool (by first | rfl | (simp; done) | (simp [Bool.eq_iff_iff]; done)), by go_grown⟩
      · simp only [Bool.true_and]
        cases g2 : inI b (-16) 15
        · simp only [Bool.false_and]
          go_enter Tryz.func62, Tryz.ntmps62
          go_wp2_with (first | (go_at_call 48; refine (l6In_e _ _ _ _).mono ?_; rintro e w' ⟨rfl, rfl⟩) | (go_at_call 73; refine (l1Word_e _ _).mono ?_; rintro e w' ⟨rfl, rfl⟩))
          go_ret
          exact ⟨retBool (by first | rfl | (simp; done) | (simp [Bool.eq_iff_iff]; done)), by go_grown⟩
        · simp only [Bool.true_and]
          go_enter Tryz.func62, Tryz.ntmps62
          go_wp2_with (first | (go_at_call 48; refine (l6In_e _ _ _ _).mono ?_; rintro e w' ⟨rfl, rfl⟩) | (go_at_call 73; refine (l1Word_e _ _).mono ?_; rintro e w' ⟨rfl, rfl⟩))
          go_ret
          exact ⟨retBool (by first | rfl | (simp; done) | (simp [Bool.eq_iff_iff]; done)), by go_grown⟩
    · have hr : insOkF (2, a, b, c) size procs = (inI a 0 2 && inI b 0 2 && decide (c = 0)) := by simp [insOkF]
      rw [hr]
      clear hr
      cases g1 : inI a 0 2
      · simp only [Bool.false_and]
        go_enter Tryz.func62, Tryz.ntmps62
        go_wp2_with (first | (go_at_call 48; refine (l6In_e _ _ _ _).mono ?_; rintro e w' ⟨rfl, rfl⟩) | (go_at_call 73; refine (l1Word_e _ _).mono ?_; rintro e w' ⟨rfl, rfl⟩))
        go_ret
        exact ⟨retBool (by first | rfl | (simp; done) | (simp [Bool.eq_iff_iff]; done)), by go_grown⟩
      · simp only [Bool.true_and]
        cases g2 : inI b 0 2
        · simp only [Bool.false_and]
          go_enter Tryz.func62, Tryz.ntmps62
          go_wp2_with (first | (go_at_call 48; refine (l6In_e _ _ _ _).mono ?_; rintro e w' ⟨rfl, rfl⟩) | (go_at_call 73; refine (l1Word_e _ _).mono ?_; rintro e w' ⟨rfl, rfl⟩))
          go_ret
          exact ⟨retBool (by first | rfl | (simp; done) | (simp [Bool.eq_iff_iff]; done)), by go_grown⟩
        · simp only [Bool.true_and]
          go_enter Tryz.func62, Tryz.ntmps62
          go_wp2_with (first | (go_at_call 48; refine (l6In_e _ _ _ _).mono ?_; rintro e w' ⟨rfl, rfl⟩) | (go_at_call 73; refine (l1Word_e _ _).mono ?_; rintro e w' ⟨rfl, rfl⟩))
          go_ret
          exact ⟨retBool (by first | rfl | (simp; done) | (simp [Bool.eq_iff_iff]; done)), by go_grown⟩
    · have hr : insOkF (3, a, b, c) size procs = (inI a 0 2 && inI b 0 15 && decide (c = 0)) := by simp [insOkF]
      rw [hr]
      clear hr
      cases g1 : inI a 0 2
      · simp only [Bool.false_and]
        go_enter Tryz.func62, Tryz.ntmps62
        go_wp2_with (first | (go_at_call 48; refine (l6In_e _ _ _ _).mono ?_; rintro e w' ⟨rfl, rfl⟩) | (go_at_call 73; refine (l1Word_e _ _).mono ?_; rintro e w' ⟨rfl, rfl⟩))
        go_ret
        exact ⟨retBool (by first | rfl | (simp; done) | (simp [Bool.eq_iff_iff]; done)), by go_grown⟩
      · simp only [Bool.true_and]
        cases g2 : inI b 0 15
        · simp only [Bool.false_and]
          go_enter Tryz.func62, Tryz.ntmps62
          go_wp2_with (first | (go_at_call 48; refine (l6In_e _ _ _ _).mono ?_; rintro e w' ⟨rfl, rfl⟩) | (go_at_call 73; refine (l1Word_e _ _).mono ?_; rintro e w' ⟨rfl, rfl⟩))
          go_ret
          exact ⟨retBool (by first | rfl | (simp; done) | (simp [Bool.eq_iff_iff]; done)), by go_grown⟩
        · simp only [Bool.true_and]
          go_enter Tryz.func62, Tryz.ntmps62
          go_wp2_with (first | (go_at_call 48; refine (l6In_e _ _ _ _).mono ?_; rintro e w' ⟨rfl, rfl⟩) | (go_at_call 73; refine (l1Word_e _ _).mono ?_; rintro e w' ⟨rfl, rfl⟩))
          go_ret
          exact ⟨retBool (by first | rfl | (simp; done) | (simp [Bool.eq_iff_iff]; done)), by go_grown⟩
    · have hr : insOkF (4, a, b, c) size procs = (inI a 0 2 && inI b 0 2 && inI c 1 6) := by simp [insOkF]
      rw [hr]
      clear hr
      cases g1 : inI a 0 2
      · simp only [Bool.false_and]
        go_enter Tryz.func62, Tryz.ntmps62
        go_wp2_with (first | (go_at_call 48; refine (l6In_e _ _ _ _).mono ?_; rintro e w' ⟨rfl, rfl⟩) | (go_at_call 73; refine (l1Word_e _ _).mono ?_; rintro e w' ⟨rfl, rfl⟩))
        go_ret
        exact ⟨retBool (by first | rfl | (simp; done) | (simp [Bool.eq_iff_iff]; done)), by go_grown⟩
      · simp only [Bool.true_and]
        cases g2 : inI b 0 2
        · simp only [Bool.false_and]
          go_enter Tryz.func62, Tryz.ntmps62
          go_wp2_with (first | (go_at_call 48; refine (l6In_e _ _ _ _).mono ?_; rintro e w' ⟨rfl, rfl⟩) | (go_at_call 73; refine (l1Word_e _ _).mono ?_; rintro e w' ⟨rfl, rfl⟩))
          go_ret
          exact ⟨retBool (by first | rfl | (simp; done) | (simp [Bool.eq_iff_iff]; done)), by go_grown⟩
        · simp only [Bool.true_and]
          go_enter Tryz.func62, Tryz.ntmps62
          go_wp2_with (first | (go_at_call 48; refine (l6In_e _ _ _ _).mono ?_; rintro e w' ⟨rfl, rfl⟩) | (go_at_call 73; refine (l1Word_e _ _).mono ?_; rintro e w' ⟨rfl, rfl⟩))
          go_ret
          exact ⟨retBool (by first | rfl | (simp; done) | (simp [Bool.eq_iff_iff]; done)), by go_grown⟩
    · have hr : insOkF (5, a, b, c) size procs = (decide (a = 0) && decide (b = 0) && inI c 0 size) := by simp [insOkF]
      rw [hr]
      clear hr
      cases g1 : decide (a = 0)
      · have g1' : (a == 0) = false := by simpa using g1
        simp only [Bool.false_and]
        clear g1
        go_enter Tryz.func62, Tryz.ntmps62
        go_wp2_with (first | (go_at_call 48; refine (l6In_e _ _ _ _).mono ?_; rintro e w' ⟨rfl, rfl⟩) | (go_at_call 73; refine (l1Word_e _ _).mono ?_; rintro e w' ⟨rfl, rfl⟩))
        go_ret
        exact ⟨retBool (by first | rfl | (simp; done) | (simp [Bool.eq_iff_iff]; done)), by go_grown⟩
      · have g1' : (a == 0) = true := by simpa using g1
        simp only [Bool.true_and]
        clear g1
        cases g2 : decide (b = 0)
        · have g2' : (b == 0) = false := by simpa using g2
          simp only [Bool.false_and]
          clear g2
          go_enter Tryz.func62, Tryz.ntmps62
          go_wp2_with (first | (go_at_call 48; refine (l6In_e _ _ _ _).mono ?_; rintro e w' ⟨rfl, rfl⟩) | (go_at_call 73; refine (l1Word_e _ _).mono ?_; rintro e w' ⟨rfl, rfl⟩))
          go_ret
          exact ⟨retBool (by first | rfl | (simp; done) | (simp [Bool.eq_iff_iff]; done)), by go_grown⟩
        · have g2' : (b == 0) = true := by simpa using g2
          simp only [Bool.true_and]
          clear g2
          go_enter Tryz.func62, Tryz.ntmps62
          go_wp2_with (first | (go_at_call 48; refine (l6In_e _ _ _ _).mono ?_; rintro e w' ⟨rfl, rfl⟩) | (go_at_call 73; refine (l1Word_e _ _).mono ?_; rintro e w' ⟨rfl, rfl⟩))
          go_ret
          exact ⟨retBool (by first | rfl | (simp; done) | (simp [Bool.eq_iff_iff]; done)), by go_grown⟩
    · have hr : insOkF (6, a, b, c) size procs = (inI a 0 2 && inI b 0 2 && inI c 0 size) := by simp [insOkF]
      rw [hr]
      clear hr
      cases g1 : inI a 0 2
      · simp only [Bool.false_and]
        go_enter Tryz.func62, Tryz.ntmps62
        go_wp2_with (first | (go_at_call 48; refine (l6In_e _ _ _ _).mono ?_; rintro e w' ⟨rfl, rfl⟩) | (go_at_call 73; refine (l1Word_e _ _).mono ?_; rintro e w' ⟨rfl, rfl⟩))
        go_ret
        exact ⟨retBool (by first | rfl | (simp; done) | (simp [Bool.eq_iff_iff]; done)), by go_grown⟩
      · simp only [Bool.true_and]
        cases g2 : inI b 0 2
        · simp only [Bool.false_and]
          go_enter Tryz.func62, Tryz.ntmps62
          go_wp2_with (first | (go_at_call 48; refine (l6In_e _ _ _ _).mono ?_; rintro e w' ⟨rfl, rfl⟩) | (go_at_call 73; refine (l1Word_e _ _).mono ?_; rintro e w' ⟨rfl, rfl⟩))
          go_ret
          exact ⟨retBool (by first | rfl | (simp; done) | (simp [Bool.eq_iff_iff]; done)), by go_grown⟩
        · simp only [Bool.true_and]
          go_enter Tryz.func62, Tryz.ntmps62
          go_wp2_with (first | (go_at_call 48; refine (l6In_e _ _ _ _).mono ?_; rintro e w' ⟨rfl, rfl⟩) | (go_at_call 73; refine (l1Word_e _ _).mono ?_; rintro e w' ⟨rfl, rfl⟩))
          go_ret
          exact ⟨retBool (by first | rfl | (simp; done) | (simp [Bool.eq_iff_iff]; done)), by go_grown⟩
    · have hr : insOkF (7, a, b, c) size procs = (inI a 0 2 && inI b 0 2 && inI c 0 size) := by simp [insOkF]
      rw [hr]
      clear hr
      cases g1 : inI a 0 2
      · simp only [Bool.false_and]
        go_enter Tryz.func62, Tryz.ntmps62
        go_wp2_with (first | (go_at_call 48; refine (l6In_e _ _ _ _).mono ?_; rintro e w' ⟨rfl, rfl⟩) | (go_at_call 73; refine (l1Word_e _ _).mono ?_; rintro e w' ⟨rfl, rfl⟩))
        go_ret
        exact ⟨retBool (by first | rfl | (simp; done) | (simp [Bool.eq_iff_iff]; done)), by go_grown⟩
      · simp only [Bool.true_and]
        cases g2 : inI b 0 2
        · simp only [Bool.false_and]
          go_enter Tryz.func62, Tryz.ntmps62
          go_wp2_with (first | (go_at_call 48; refine (l6In_e _ _ _ _).mono ?_; rintro e w' ⟨rfl, rfl⟩) | (go_at_call 73; refine (l1Word_e _ _).mono ?_; rintro e w' ⟨rfl, rfl⟩))
          go_ret
          exact ⟨retBool (by first | rfl | (simp; done) | (simp [Bool.eq_iff_iff]; done)), by go_grown⟩
        · simp only [Bool.true_and]
          go_enter Tryz.func62, Tryz.ntmps62
          go_wp2_with (first | (go_at_call 48; refine (l6In_e _ _ _ _).mono ?_; rintro e w' ⟨rfl, rfl⟩) | (go_at_call 73; refine (l1Word_e _ _).mono ?_; rintro e w' ⟨rfl, rfl⟩))
          go_ret
          exact ⟨retBool (by first | rfl | (simp; done) | (simp [Bool.eq_iff_iff]; done)), by go_grown⟩
    · have hr : insOkF (8, a, b, c) size procs = (inI a 0 2 && inI b 0 (procs - 1) && inI c 0 2) := by simp [insOkF]
      rw [hr]
      clear hr
      cases g1 : inI a 0 2
      · simp only [Bool.false_and]
        go_enter Tryz.func62, Tryz.ntmps62
        go_wp2_with (first | (go_at_call 48; refine (l6In_e _ _ _ _).mono ?_; rintro e w' ⟨rfl, rfl⟩) | (go_at_call 73; refine (l1Word_e _ _).mono ?_; rintro e w' ⟨rfl, rfl⟩))
        go_ret
        exact ⟨retBool (by first | rfl | (simp; done) | (simp [Bool.eq_iff_iff]; done)), by go_grown⟩
      · simp only [Bool.true_and]
        cases g2 : inI b 0 (procs - 1)
        · simp only [Bool.false_and]
          go_enter Tryz.func62, Tryz.ntmps62
          go_wp2_with (first | (go_at_call 48; refine (l6In_e _ _ _ _).mono ?_; rintro e w' ⟨rfl, rfl⟩) | (go_at_call 73; refine (l1Word_e _ _).mono ?_; rintro e w' ⟨rfl, rfl⟩))
          go_ret
          exact ⟨retBool (by first | rfl | (simp; done) | (simp [Bool.eq_iff_iff]; done)), by go_grown⟩
        · simp only [Bool.true_and]
          go_enter Tryz.func62, Tryz.ntmps62
          go_wp2_with (first | (go_at_call 48; refine (l6In_e _ _ _ _).mono ?_; rintro e w' ⟨rfl, rfl⟩) | (go_at_call 73; refine (l1Word_e _ _).mono ?_; rintro e w' ⟨rfl, rfl⟩))
          go_ret
          exact ⟨retBool (by first | rfl | (simp; done) | (simp [Bool.eq_iff_iff]; done)), by go_grown⟩
    · have hr : insOkF (9, a, b, c) size procs = (inI a 0 2 && decide (b = 0) && decide (c = 0)) := by simp [insOkF]
      rw [hr]
      clear hr
      cases g1 : inI a 0 2
      · simp only [Bool.false_and]
        go_enter Tryz.func62, Tryz.ntmps62
        go_wp2_with (first | (go_at_call 48; refine (l6In_e _ _ _ _).mono ?_; rintro e w' ⟨rfl, rfl⟩) | (go_at_call 73; refine (l1Word_e _ _).mono ?_; rintro e w' ⟨rfl, rfl⟩))
        go_ret
        exact ⟨retBool (by first | rfl | (simp; done) | (simp [Bool.eq_iff_iff]; done)), by go_grown⟩
      · simp only [Bool.true_and]
        cases g2 : decide (b = 0)
        · have g2' : (b == 0) = false := by simpa using g2
          simp only [Bool.false_and]
          clear g2
          go_enter Tryz.func62, Tryz.ntmps62
          go_wp2_with (first | (go_at_call 48; refine (l6In_e _ _ _ _).mono ?_; rintro e w' ⟨rfl, rfl⟩) | (go_at_call 73; refine (l1Word_e _ _).mono ?_; rintro e w' ⟨rfl, rfl⟩))
          go_ret
          exact ⟨retBool (by first | rfl | (simp; done) | (simp [Bool.eq_iff_iff]; done)), by go_grown⟩
        · have g2' : (b == 0) = true := by simpa using g2
          simp only [Bool.true_and]
          clear g2
          go_enter Tryz.func62, Tryz.ntmps62
          go_wp2_with (first | (go_at_call 48; refine (l6In_e _ _ _ _).mono ?_; rintro e w' ⟨rfl, rfl⟩) | (go_at_call 73; refine (l1Word_e _ _).mono ?_; rintro e w' ⟨rfl, rfl⟩))
          go_ret
          exact ⟨retBool (by first | rfl | (simp; done) | (simp [Bool.eq_iff_iff]; done)), by go_grown⟩
    · have hr : insOkF (10, a, b, c) size procs = (inI a 0 2 && decide (b = 0) && decide (c = 0)) := by simp [insOkF]
      rw [hr]
      clear hr
      cases g1 : inI a 0 2
      · simp only [Bool.false_and]
        go_enter Tryz.func62, Tryz.ntmps62
        go_wp2_with (first | (go_at_call 48; refine (l6In_e _ _ _ _).mono ?_; rintro e w' ⟨rfl, rfl⟩) | (go_at_call 73; refine (l1Word_e _ _).mono ?_; rintro e w' ⟨rfl, rfl⟩))
        go_ret
        exact ⟨retBool (by first | rfl | (simp; done) | (simp [Bool.eq_iff_iff]; done)), by go_grown⟩
      · simp only [Bool.true_and]
        cases g2 : decide (b = 0)
        · have g2' : (b == 0) = false := by simpa using g2
          simp only [Bool.false_and]
          clear g2
          go_enter Tryz.func62, Tryz.ntmps62
          go_wp2_with (first | (go_at_call 48; refine (l6In_e _ _ _ _).mono ?_; rintro e w' ⟨rfl, rfl⟩) | (go_at_call 73; refine (l1Word_e _ _).mono ?_; rintro e w' ⟨rfl, rfl⟩))
          go_ret
          exact ⟨retBool (by first | rfl | (simp; done) | (simp [Bool.eq_iff_iff]; done)), by go_grown⟩
        · have g2' : (b == 0) = true := by simpa using g2
          simp only [Bool.true_and]
          clear g2
          go_enter Tryz.func62, Tryz.ntmps62
          go_wp2_with (first | (go_at_call 48; refine (l6In_e _ _ _ _).mono ?_; rintro e w' ⟨rfl, rfl⟩) | (go_at_call 73; refine (l1Word_e _ _).mono ?_; rintro e w' ⟨rfl, rfl⟩))
          go_ret
          exact ⟨retBool (by first | rfl | (simp; done) | (simp [Bool.eq_iff_iff]; done)), by go_grown⟩
    · have hr : insOkF (11, a, b, c) size procs = (inI a 0 2 && inI b 0 2 && decide (c = 0)) := by simp [insOkF]
      rw [hr]
      clear hr
      cases g1 : inI a 0 2
      · simp only [Bool.false_and]
        go_enter Tryz.func62, Tryz.ntmps62
        go_wp2_with (first | (go_at_call 48; refine (l6In_e _ _ _ _).mono ?_; rintro e w' ⟨rfl, rfl⟩) | (go_at_call 73; refine (l1Word_e _ _).mono ?_; rintro e w' ⟨rfl, rfl⟩))
        go_ret
        exact ⟨retBool (by first | rfl | (simp; done) | (simp [Bool.eq_iff_iff]; done)), by go_grown⟩
      · simp only [Bool.true_and]
        cases g2 : inI b 0 2
        · simp only [Bool.false_and]
          go_enter Tryz.func62, Tryz.ntmps62
          go_wp2_with (first | (go_at_call 48; refine (l6In_e _ _ _ _).mono ?_; rintro e w' ⟨rfl, rfl⟩) | (go_at_call 73; refine (l1Word_e _ _).mono ?_; rintro e w' ⟨rfl, rfl⟩))
          go_ret
          exact ⟨retBool (by first | rfl | (simp; done) | (simp [Bool.eq_iff_iff]; done)), by go_grown⟩
        · simp only [Bool.true_and]
          go_enter Tryz.func62, Tryz.ntmps62
          go_wp2_with (first | (go_at_call 48; refine (l6In_e _ _ _ _).mono ?_; rintro e w' ⟨rfl, rfl⟩) | (go_at_call 73; refine (l1Word_e _ _).mono ?_; rintro e w' ⟨rfl, rfl⟩))
          go_ret
          exact ⟨retBool (by first | rfl | (simp; done) | (simp [Bool.eq_iff_iff]; done)), by go_grown⟩
    · have hr : insOkF (12, a, b, c) size procs = (inI a 0 2 && inI b 0 2 && decide (c = 0)) := by simp [insOkF]
      rw [hr]
      clear hr
      cases g1 : inI a 0 2
      · simp only [Bool.false_and]
        go_enter Tryz.func62, Tryz.ntmps62
        go_wp2_with (first | (go_at_call 48; refine (l6In_e _ _ _ _).mono ?_; rintro e w' ⟨rfl, rfl⟩) | (go_at_call 73; refine (l1Word_e _ _).mono ?_; rintro e w' ⟨rfl, rfl⟩))
        go_ret
        exact ⟨retBool (by first | rfl | (simp; done) | (simp [Bool.eq_iff_iff]; done)), by go_grown⟩
      · simp only [Bool.true_and]
        cases g2 : inI b 0 2
        · simp only [Bool.false_and]
          go_enter Tryz.func62, Tryz.ntmps62
          go_wp2_with (first | (go_at_call 48; refine (l6In_e _ _ _ _).mono ?_; rintro e w' ⟨rfl, rfl⟩) | (go_at_call 73; refine (l1Word_e _ _).mono ?_; rintro e w' ⟨rfl, rfl⟩))
          go_ret
          exact ⟨retBool (by first | rfl | (simp; done) | (simp [Bool.eq_iff_iff]; done)), by go_grown⟩
        · simp only [Bool.true_and]
          go_enter Tryz.func62, Tryz.ntmps62
          go_wp2_with (first | (go_at_call 48; refine (l6In_e _ _ _ _).mono ?_; rintro e w' ⟨rfl, rfl⟩) | (go_at_call 73; refine (l1Word_e _ _).mono ?_; rintro e w' ⟨rfl, rfl⟩))
          go_ret
          exact ⟨retBool (by first | rfl | (simp; done) | (simp [Bool.eq_iff_iff]; done)), by go_grown⟩
  · have e1 : (K == 1) = false := by simp; omega
    have e2 : (K == 2) = false := by simp; omega
    have e3 : (K == 3) = false := by simp; omega
    have e4 : (K == 4) = false := by simp; omega
    have e5 : (K == 5) = false := by simp; omega
    have e6 : (K == 6) = false := by simp; omega
    have e7 : (K == 7) = false := by simp; omega
    have e8 : (K == 8) = false := by simp; omega
    have e9 : (K == 9) = false := by simp; omega
    have e10 : (K == 10) = false := by simp; omega
    have e11 : (K == 11) = false := by simp; omega
    have e12 : (K == 12) = false := by simp; omega
    have hr : insOkF (K, a, b, c) size procs = false := by
      unfold insOkF; simp only; repeat' split
      all_goals first | rfl | omega
    rw [hr]
    clear hr hK
    go_enter Tryz.func62, Tryz.ntmps62
    go_wp2_with (go_at_call 48; refine (l6In_e _ _ _ _).mono ?_; rintro e w' ⟨rfl, rfl⟩)
    go_ret
    exact ⟨rfl, by go_grown⟩

end Go.Proofs.YtlkebkajdlgebaaGreat

/-
  The contract of the model's ProgOk.
-/
namespace Go.Proofs.YtlkebkajdlgebaaGreat
open Go.RowKit
set_option linter.unusedVariables false
set_option linter.unusedSimpArgs false

/-- whether a program is ok -/
def codeOkF (c : List I4) (procs : Int) : Bool := decide (c.length ≤ 8) && c.all fun i => insOkF i c.length procs
def progOkF (P : List (List I4)) : Bool := decide (1 ≤ P.length ∧ P.length ≤ 4) && P.all fun c => codeOkF c P.length

theorem all_take {α : Type} (f : α → Bool) (l : List α) (d : α) (k : Nat) (h : k < l.length) : (l.take (k + 1)).all f = ((l.take k).all f && f (l.getD k d)) := by
  rw [List.take_succ_eq_append_getElem h, List.all_append]; simp [List.getD, List.getElem?_eq_getElem h]
theorem all_false {α : Type} (f : α → Bool) (l : List α) (d : α) (k : Nat) (h : k < l.length) (hf : f (l.getD k d) = false) : l.all f = false := by
  cases hl : l.all f
  · rfl
  · rw [List.all_eq_true] at hl
    have := hl (l.getD k d) (by rw [List.getD, List.getElem?_eq_getElem h]; simp)
    rw [hf] at this; simp at this

theorem keepI5 {w y : World} {g o k g2 o2 j : Nat} {I : I4} {u : Value} (h : w.cell? ⟨g, o + k, none⟩ = some u ∧ w.cell? ⟨g2, o2 + j * 4, none⟩ = some (.int .i64 I.1) ∧ w.cell? ⟨g2, o2 + j * 4 + 1, none⟩ = some (.int .i64 I.2.1) ∧ w.cell? ⟨g2, o2 + j * 4 + 2, none⟩ = some (.int .i64 I.2.2.1) ∧ w.cell? ⟨g2, o2 + j * 4 + 3, none⟩ = some (.int .i64 I.2.2.2)) (hb : Below w.heap.size w y) (hg : g < w.heap.size) (hg2 : g2 < w.heap.size) :
    y.cell? ⟨g, o + k, none⟩ = some u ∧ y.cell? ⟨g2, o2 + j * 4, none⟩ = some (.int .i64 I.1) ∧ y.cell? ⟨g2, o2 + j * 4 + 1, none⟩ = some (.int .i64 I.2.1) ∧ y.cell? ⟨g2, o2 + j * 4 + 2, none⟩ = some (.int .i64 I.2.2.1) ∧ y.cell? ⟨g2, o2 + j * 4 + 3, none⟩ = some (.int .i64 I.2.2.2) := by
  obtain ⟨d0, e0, e1, e2, e3⟩ := h
  exact ⟨(hb.cell (p := ⟨g, _, none⟩) hg).trans d0, (hb.cell (p := ⟨g2, _, none⟩) hg2).trans e0, (hb.cell (p := ⟨g2, _, none⟩) hg2).trans e1, (hb.cell (p := ⟨g2, _, none⟩) hg2).trans e2, (hb.cell (p := ⟨g2, _, none⟩) hg2).trans e3⟩

set_option maxHeartbeats 4000000 in
theorem progOk_spec_in (x : World) (B : Nat) (v : Value) (P : List (List I4)) (h : ProgAt x B v P) (h1 : 1 ≤ P.length) (h4 : P.length ≤ 4) :
    Calls Tryz.prog 39 #[v] x fun e y => e = .returned (.bool (P.all fun c => codeOkF c P.length)) ∧ Below x.heap.size x y := by
  obtain ⟨p, cap, rfl, hm, hc⟩ := h
  rcases hc with h0 | ⟨g, o, rfl, hBg, hgx, hins⟩
  · omega
  have HX : Hid (∀ j, j < P.length → ∃ u, x.cell? ⟨g, o + j, none⟩ = some u ∧ CodeAt x B u (P.getD j [])) := hins
  clear hins hm
  generalize hL : P.length = n at *
  have HL : Hid (P.length = n) := hL
  clear hL
  have hin : inI n 1 4 = true := by simp [inI]; omega
  have hn4 : (n : Int) ≤ 4 := by omega
  go_enter Tryz.func39, Tryz.ntmps39
  go_wp2_with (go_at_call 48; refine (l6In_e _ _ _ _).mono ?_; rintro e w' ⟨rfl, hw'⟩; have hw2 := hw'.symm; subst hw2)
  go_loopw [3] (fun t y => ∃ k : Nat, k ≤ n ∧ t = .int .i64 k ∧ (P.take k).all (fun c => codeOkF c n) = true ∧ Below x.heap.size x y) (fun t _ => n - (intOf t).toNat)
  case atStart => exact ⟨0, by omega, rfl, by simp, Below.refl _ _⟩
  case round =>
    obtain ⟨k, hk, rfl, hall, hB⟩ := hrel
    have HAL : Hid ((P.take k).all (fun c => codeOkF c n) = true) := hall
    clear hall
    by_cases hlt : k < n
    · have hki : (k : Int) < (n : Int) := by omega
      obtain ⟨uk, cu, hcu⟩ := HX.out k hlt
      have hst := all_take (fun c => codeOkF c n) P [] k (by rw [HL.out]; exact hlt)
      have hfl := all_false (fun c => codeOkF c n) P [] k (by rw [HL.out]; exact hlt)
      rw [HAL.out, Bool.true_and] at hst
      generalize P.getD k [] = C at hst hfl hcu
      have HST : Hid ((P.take (k + 1)).all (fun c => codeOkF c n) = codeOkF C n) := hst
      have HFL : Hid (codeOkF C n = false → P.all (fun c => codeOkF c n) = false) := hfl
      clear hst hfl HAL
      obtain ⟨pk, ck, rfl, hmk, hck⟩ := hcu
      have d0 := (hB.cell (p := ⟨g, o + k, none⟩) hgx).trans cu
      have HCU : Hid (x.cell? ⟨g, o + k, none⟩ = some (.slice pk C.length ck)) := cu
      clear cu
      have hgw : g < wr.heap.size := Nat.lt_of_lt_of_le hgx hB.size
      by_cases h8 : C.length ≤ 8
      · have h8i : (C.length : Int) ≤ 8 := by omega
        clear hmk
        go_wp2_with fail
        go_loopw [4] (fun t y => ∃ j : Nat, j ≤ C.length ∧ t = .int .i64 j ∧ (C.take j).all (fun i => insOkF i C.length n) = true ∧ Below x.heap.size x y) (fun t _ => C.length - (intOf t).toNat)
        case atStart => exact ⟨0, by omega, rfl, by simp, hB⟩
        case round =>
          clear hB d0 hgw
          obtain ⟨j, hj, rfl, hall, hB⟩ := hrel
          have HAJ : Hid ((C.take j).all (fun i => insOkF i C.length n) = true) := hall
          clear hall
          have d0 := (hB.cell (p := ⟨g, o + k, none⟩) hgx).trans HCU.out
          by_cases hjl : j < C.length
          · rcases hck with h0 | ⟨g2, o2, rfl, hB2, hg2, hi4⟩
            · omega
            have hji : (j : Int) < (C.length : Int) := by omega
            obtain ⟨q0, q1, q2, q3⟩ := hi4 j hjl
            have e0 := (hB.cell (p := ⟨g2, o2 + j * 4, none⟩) hg2).trans q0
            have e1 := (hB.cell (p := ⟨g2, o2 + j * 4 + 1, none⟩) hg2).trans q1
            have e2 := (hB.cell (p := ⟨g2, o2 + j * 4 + 2, none⟩) hg2).trans q2
            have e3 := (hB.cell (p := ⟨g2, o2 + j * 4 + 3, none⟩) hg2).trans q3
            clear q0 q1 q2 q3 hi4
            have hst := all_take (fun i => insOkF i C.length n) C i0 j hjl
            have hfl := all_false (fun i => insOkF i C.length n) C i0 j hjl
            rw [HAJ.out, Bool.true_and] at hst
            generalize C.getD j i0 = I at hst hfl e0 e1 e2 e3
            have HSJ : Hid ((C.take (j + 1)).all (fun i => insOkF i C.length n) = insOkF I C.length n) := hst
            have HFJ : Hid (insOkF I C.length n = false → C.all (fun i => insOkF i C.length n) = false) := hfl
            clear hst hfl HAJ
            have hgw : g < wr.heap.size := Nat.lt_of_lt_of_le hgx hB.size
            have hgw2 : g2 < wr.heap.size := Nat.lt_of_lt_of_le hg2 hB.size
            go_wp2_with fail
            go_region_held3 (fun z => z.cell? ⟨g, o + k, none⟩ = some (.slice (some ⟨g2, o2, none⟩) C.length ck) ∧ z.cell? ⟨g2, o2 + j * 4, none⟩ = some (.int .i64 I.1) ∧ z.cell? ⟨g2, o2 + j * 4 + 1, none⟩ = some (.int .i64 I.2.1) ∧ z.cell? ⟨g2, o2 + j * 4 + 2, none⟩ = some (.int .i64 I.2.2.1) ∧ z.cell? ⟨g2, o2 + j * 4 + 3, none⟩ = some (.int .i64 I.2.2.2)) (first | (with_reducible assumption) | exact ⟨d0, e0, e1, e2, e3⟩ | fail) ((go_at_call 62; refine (l2Ins_any I _ _ _ (by omega) (by omega)).mono ?_; rintro e w2 ⟨rfl, hb2⟩; have hS2 := keepI5 (w := wr.drew) ⟨d0, e0, e1, e2, e3⟩ hb2 hgw hgw2))
            have hB2 : Below x.heap.size x w2 := hB.trans ((Below.drew (Below.refl _ _)).trans (hb2.mono (by simp)) |>.mono hB.size)
            cases hok : insOkF I C.length n
            · have HFA : Hid (P.all (fun c => codeOkF c n) = false) := HFL.out (by simp only [codeOkF, HFJ.out hok, Bool.and_false])
              go_wp2_with fail
              go_ret
              exact ⟨retBool HFA.out.symm, hB2⟩
            · have HSK : Hid ((C.take (j + 1)).all (fun i => insOkF i C.length n) = true) := HSJ.out.trans hok
              go_wp2_with fail
              go_roundw
              case rel => exact ⟨j + 1, by omega, by go_num, HSK.out, hB2⟩
              case measure => simp [intOf]; omega
          · have hji : ¬ (j : Int) < (C.length : Int) := by omega
            have hca : codeOkF C n = true := by
              have := HAJ.out
              rw [List.take_of_length_le (by omega)] at this
              simp only [codeOkF, this, Bool.and_true, decide_eq_true_eq]
              exact h8
            have HSK : Hid ((P.take (k + 1)).all (fun c => codeOkF c n) = true) := HST.out.trans hca
            clear hca
            go_wp2_with fail
            go_roundw
            case rel => exact ⟨k + 1, by omega, by go_num, HSK.out, hB⟩
            case measure => simp [intOf]; omega
      · have h8i : (8 : Int) < C.length := by omega
        have hfa : P.all (fun c => codeOkF c n) = false := HFL.out (by simp [codeOkF]; omega)
        have HFA : Hid (P.all (fun c => codeOkF c n) = false) := hfa
        clear hfa
        unfold maxLen at hmk
        have hmi : (C.length : Int) ≤ 9223372036854775807 := by omega
        go_wp2_with fail
        go_ret
        exact ⟨retBool HFA.out.symm, hB⟩
    · obtain rfl : k = n := by omega
      have hki : ¬ (k : Int) < (k : Int) := by omega
      have hfa : P.all (fun c => codeOkF c k) = true := by have := HAL.out; rw [List.take_of_length_le (by rw [HL.out]; omega)] at this; exact this
      have HFA : Hid (P.all (fun c => codeOkF c k) = true) := hfa
      clear hfa
      go_wp2_with fail
      go_ret
      exact ⟨retBool HFA.out.symm, hB⟩

end Go.Proofs.YtlkebkajdlgebaaGreat

/-
  The contract of the model's ProgOk, whatever the program.
-/
namespace Go.Proofs.YtlkebkajdlgebaaGreat
open Go.RowKit
set_option linter.unusedVariables false
set_option linter.unusedSimpArgs false

theorem progOkF_in {P : List (List I4)} (h1 : 1 ≤ P.length) (h4 : P.length ≤ 4) : progOkF P = P.all fun c => codeOkF c P.length := by
  simp [progOkF, h1, h4]
theorem progOkF_out {P : List (List I4)} (h : P.length = 0 ∨ 4 < P.length) : progOkF P = false := by
  unfold progOkF
  rw [show decide (1 ≤ P.length ∧ P.length ≤ 4) = false from decide_eq_false (by omega)]
  rfl

set_option maxHeartbeats 1000000 in
theorem progOk_spec (x : World) (B : Nat) (v : Value) (P : List (List I4)) (h : ProgAt x B v P) :
    Calls Tryz.prog 39 #[v] x fun e y => e = .returned (.bool (progOkF P)) ∧ Below x.heap.size x y := by
  by_cases hr : 1 ≤ P.length ∧ P.length ≤ 4
  · rw [progOkF_in hr.1 hr.2]
    exact progOk_spec_in x B v P h hr.1 hr.2
  · rw [progOkF_out (by omega)]
    obtain ⟨p, cap, rfl, hm, _⟩ := h
    have hin : inI P.length 1 4 = false := by simp [inI]; omega
    generalize P.length = n at *
    unfold maxLen at hm
    have hni : (n : Int) ≤ 9223372036854775807 := by omega
    clear hr hm
    go_enter Tryz.func39, Tryz.ntmps39
    go_wp2_with (go_at_call 48; refine (l6In_e _ _ _ _).mono ?_; rintro e w' ⟨rfl, hw'⟩; have hw2 := hw'.symm; subst hw2)
    go_ret
    exact ⟨rfl, Below.refl _ _⟩

end Go.Proofs.YtlkebkajdlgebaaGreat
