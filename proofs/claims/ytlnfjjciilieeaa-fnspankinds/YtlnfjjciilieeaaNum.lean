/-
  The contracts of the functions on words (NumWrap, NumDo and what they call), the program's and the model's, and the walks of the laws FnExactNumWrap and FnExactNumDo.
-/
import Derived.Test.YtlnfjjciilieeaaRows
import Derived.Test.YtlnfjjciilieeaaMath
import Derived.Handy
import Derived.WalkLawsBesides
import Derived.WalkSpells
import Derived.Deep.QuietTactic
import Derived.BigQuiet
namespace Go.Proofs.Ytlnfjjciilieeaa
open Go.RowKit
set_option linter.unusedVariables false

theorem ret_int {k : IntKind} {a b : Int} (h : a = b) : Ending.returned (.int k a) = .returned (.int k b) := by rw [h]
theorem ret_bool {a b : Bool} (h : a = b) : Ending.returned (.bool a) = .returned (.bool b) := by rw [h]
theorem ret_two {k : IntKind} {a b : Int} {c d : Bool} (h : a = b) (h' : c = d) : Ending.returned (.tuple #[.int k a, .bool c]) = .returned (.tuple #[.int k b, .bool d]) := by rw [h, h']

set_option maxHeartbeats 400000 in
theorem wrap_impl (n : Int) (w : World) : Calls Try.prog 24 #[.int .i64 n] w fun e w' => e = .returned (.int .i64 (wrapF n)) ∧ w' = w := by
  have h1 := Int.tmod_lt_of_pos n (b := 32) (by omega)
  have h2 := Int.lt_tmod_of_pos n (b := 32) (by omega)
  go_enter Try.func24, Try.ntmps24
  go_wp2
  all_goals
    go_ret
    exact ⟨ret_int (by unfold wrapF; repeat' split
                       all_goals omega), rfl⟩

theorem st_nil (P : Program) (w : World) (a : Addr) (m : Mode) : (store a .nilFunc m).run P w = stored P w a .nilFunc m := run_store P w a _ m rfl
theorem st_fn (P : Program) (w : World) (a : Addr) (m : Mode) (fn : Fn) (x y : Array Value) : (store a (.func fn x y) m).run P w = stored P w a (.func fn x y) m := run_store P w a _ m rfl
attribute [local go_sem] st_nil st_fn

theorem isW_t {n : Int} (h : isW n = true) : -16 ≤ n ∧ n ≤ 15 := by simpa [isW] using h
theorem isW_f {n : Int} (h : isW n = false) : n < -16 ∨ 15 < n := by simp [isW] at h; omega
theorem isW_of {n : Int} (h1 : -16 ≤ n) (h2 : n ≤ 15) : isW n = true := by simp [isW]; omega

theorem isWord_any (n : Int) (w : World) : Calls Try.prog 55 #[.int .i64 n] w fun e w' => e = .returned (.bool (isW n)) ∧ w' = w := by
  by_cases h1 : -16 ≤ n
  · by_cases h2 : n ≤ 15
    · go_enter Try.func55, Try.ntmps55
      go_wp2
      go_ret
      exact ⟨ret_bool (by simp [isW]; omega), rfl⟩
    · go_enter Try.func55, Try.ntmps55
      go_wp2
      go_ret
      exact ⟨ret_bool (by simp [isW]; omega), rfl⟩
  · go_enter Try.func55, Try.ntmps55
    go_wp2
    go_ret
    exact ⟨ret_bool (by simp [isW]; omega), rfl⟩

theorem l6In_any (n lo hi : Int) (w : World) : Calls Try.prog 58 #[.int .i64 n, .int .i64 lo, .int .i64 hi] w fun e w' => e = .returned (.bool (inB n lo hi)) ∧ w' = w := by
  by_cases h1 : lo ≤ n
  · by_cases h2 : n ≤ hi
    · go_enter Try.func58, Try.ntmps58
      go_wp2
      go_ret
      exact ⟨ret_bool (by simp [inB]; omega), rfl⟩
    · go_enter Try.func58, Try.ntmps58
      go_wp2
      go_ret
      exact ⟨ret_bool (by simp [inB]; omega), rfl⟩
  · go_enter Try.func58, Try.ntmps58
    go_wp2
    go_ret
    exact ⟨ret_bool (by simp [inB]; omega), rfl⟩

theorem l1Word_any (n : Int) (w : World) : Calls Try.prog 50 #[.int .i64 n] w fun e w' => e = .returned (.bool (isW n)) ∧ w' = w := by
  go_enter Try.func50, Try.ntmps50
  go_wp2_with (go_at_call 58; refine (l6In_any _ _ _ _).mono ?_; rintro e w' ⟨rfl, rfl⟩)
  go_ret
  exact ⟨ret_bool rfl, rfl⟩

/-- the number of the function that an operation is -/
def deedNo (op : Int) : Nat := if op = 1 then 64 else if op = 2 then 65 else if op = 3 then 66 else if op = 4 then 67 else if op = 5 then 68 else if op = 6 then 69 else 70
theorem op_cases (op : Int) : op = 1 ∨ op = 2 ∨ op = 3 ∨ op = 4 ∨ op = 5 ∨ op = 6 ∨ (op < 1 ∨ 6 < op) := by omega
theorem deedNo_out {op : Int} (h : op < 1 ∨ 6 < op) : deedNo op = 70 := by
  unfold deedNo; repeat' split
  all_goals omega

set_option maxHeartbeats 1000000 in
theorem deedOf_any (op : Int) (w : World) : Calls Try.prog 43 #[.int .i64 op] w fun e w' => e = .returned (.func (.func (deedNo op)) #[] #[]) ∧ Below w.heap.size w w' := by
  rcases op_cases op with rfl | rfl | rfl | rfl | rfl | rfl | h
  iterate 6
    · go_enter Try.func43, Try.ntmps43
      go_wp2
      go_ret
      exact ⟨rfl, by go_grown⟩
  rw [deedNo_out h]
  rcases h with h | h
  · go_enter Try.func43, Try.ntmps43
    go_wp2
    go_ret
    exact ⟨rfl, by go_grown⟩
  · have h' : ¬ op < 1 := by omega
    have h'' : 7 ≤ op := by omega
    go_enter Try.func43, Try.ntmps43
    go_wp2
    go_ret
    exact ⟨rfl, by go_grown⟩

/-- what the function of an operation gives: the number ahead of wrapping (nought where it cannot be), and whether it can be -/
def giveF (op a b : Int) : Int := if canF op b = true then rawF op a b else 0

theorem raw_bd (op a b : Int) (ha1 : -16 ≤ a) (ha2 : a ≤ 15) (hb1 : -16 ≤ b) (hb2 : b ≤ 15) : -256 ≤ rawF op a b ∧ rawF op a b ≤ 256 := by
  have hm : -256 ≤ a * b ∧ a * b ≤ 256 := by
    rcases Int.le_total 0 a with h | h <;> rcases Int.le_total 0 b with h' | h'
    · have := Int.mul_le_mul ha2 hb2 h' (by omega : (0:Int) ≤ 15); have := Int.mul_nonneg h h'; omega
    · have := Int.mul_le_mul ha2 (by omega : -b ≤ 16) (by omega : 0 ≤ -b) (by omega : (0:Int) ≤ 15); have := Int.mul_nonneg h (by omega : 0 ≤ -b); simp only [Int.mul_neg] at *; omega
    · have := Int.mul_le_mul (by omega : -a ≤ 16) hb2 h' (by omega : (0:Int) ≤ 16); have := Int.mul_nonneg (by omega : 0 ≤ -a) h'; simp only [Int.neg_mul] at *; omega
    · have := Int.mul_le_mul (by omega : -a ≤ 16) (by omega : -b ≤ 16) (by omega : 0 ≤ -b) (by omega : (0:Int) ≤ 16); have := Int.mul_nonneg (by omega : 0 ≤ -a) (by omega : 0 ≤ -b); simp only [Int.neg_mul, Int.mul_neg, Int.neg_neg] at *; omega
  have hd : (a.tdiv b).natAbs ≤ a.natAbs := Int.natAbs_tdiv_le_natAbs a b
  unfold rawF
  repeat' split
  all_goals omega

theorem ret_pair {a b : Int} {c d : Bool} (h : a = b) (h' : c = d) : Ending.returned (.tuple #[.int .i64 a, .bool c]) = .returned (.tuple #[.int .i64 b, .bool d]) := by rw [h, h']
theorem oneIf_any (b : Bool) (w : World) : Calls Try.prog 44 #[.bool b] w fun e w' => e = .returned (.int .i64 (if b = true then 1 else 0)) ∧ w' = w := by
  cases b
  all_goals
    go_enter Try.func44, Try.ntmps44
    go_wp2
    go_ret
    exact ⟨ret_int (by simp), rfl⟩

theorem add_any (a b : Int) (w : World) (ha1 : -16 ≤ a) (ha2 : a ≤ 15) (hb1 : -16 ≤ b) (hb2 : b ≤ 15) :
    Calls Try.prog 64 #[.int .i64 a, .int .i64 b] w fun e w' => e = .returned (.tuple #[.int .i64 (giveF 1 a b), .bool (canF 1 b)]) ∧ w' = w := by
  go_enter Try.func64, Try.ntmps64
  go_wp2
  go_ret2
  exact ⟨ret_pair (by simp [giveF, canF, rawF]) (by simp [canF]), rfl⟩

theorem sub_any (a b : Int) (w : World) (ha1 : -16 ≤ a) (ha2 : a ≤ 15) (hb1 : -16 ≤ b) (hb2 : b ≤ 15) :
    Calls Try.prog 65 #[.int .i64 a, .int .i64 b] w fun e w' => e = .returned (.tuple #[.int .i64 (giveF 2 a b), .bool (canF 2 b)]) ∧ w' = w := by
  go_enter Try.func65, Try.ntmps65
  go_wp2
  go_ret2
  exact ⟨ret_pair (by simp [giveF, canF, rawF]) (by simp [canF]), rfl⟩

theorem mul_any (a b : Int) (w : World) (ha1 : -16 ≤ a) (ha2 : a ≤ 15) (hb1 : -16 ≤ b) (hb2 : b ≤ 15) :
    Calls Try.prog 66 #[.int .i64 a, .int .i64 b] w fun e w' => e = .returned (.tuple #[.int .i64 (giveF 3 a b), .bool (canF 3 b)]) ∧ w' = w := by
  have hm := raw_bd 3 a b ha1 ha2 hb1 hb2
  simp [rawF] at hm
  go_enter Try.func66, Try.ntmps66
  go_wp2
  go_ret2
  exact ⟨ret_pair (by simp [giveF, canF, rawF]) (by simp [canF]), rfl⟩

theorem div_any (a b : Int) (w : World) (ha1 : -16 ≤ a) (ha2 : a ≤ 15) (hb1 : -16 ≤ b) (hb2 : b ≤ 15) :
    Calls Try.prog 67 #[.int .i64 a, .int .i64 b] w fun e w' => e = .returned (.tuple #[.int .i64 (giveF 4 a b), .bool (canF 4 b)]) ∧ w' = w := by
  by_cases h0 : b = 0
  · subst h0
    go_enter Try.func67, Try.ntmps67
    go_wp2
    go_ret2
    exact ⟨ret_pair (by simp [giveF, canF]) (by simp [canF]), rfl⟩
  · have hb0 : (b == 0) = false := by simp [h0]
    have hm := raw_bd 4 a b ha1 ha2 hb1 hb2
    simp [rawF] at hm
    go_enter Try.func67, Try.ntmps67
    go_wp2
    all_goals
      go_ret2
      exact ⟨ret_pair (by simp [giveF, canF, rawF, h0]) (by simp [canF, h0]), rfl⟩

theorem less_any (a b : Int) (w : World) (ha1 : -16 ≤ a) (ha2 : a ≤ 15) (hb1 : -16 ≤ b) (hb2 : b ≤ 15) :
    Calls Try.prog 68 #[.int .i64 a, .int .i64 b] w fun e w' => e = .returned (.tuple #[.int .i64 (giveF 5 a b), .bool (canF 5 b)]) ∧ w' = w := by
  by_cases hc : a < b
  · skip
    go_enter Try.func68, Try.ntmps68
    go_wp2_with (go_at_call 44; refine (oneIf_any _ _).mono ?_; rintro e w' ⟨rfl, rfl⟩)
    go_ret2
    exact ⟨ret_pair (by simp [giveF, canF, rawF]; omega) (by simp [canF]), rfl⟩
  · skip
    go_enter Try.func68, Try.ntmps68
    go_wp2_with (go_at_call 44; refine (oneIf_any _ _).mono ?_; rintro e w' ⟨rfl, rfl⟩)
    go_ret2
    exact ⟨ret_pair (by simp [giveF, canF, rawF]; omega) (by simp [canF]), rfl⟩

theorem same_any (a b : Int) (w : World) (ha1 : -16 ≤ a) (ha2 : a ≤ 15) (hb1 : -16 ≤ b) (hb2 : b ≤ 15) :
    Calls Try.prog 69 #[.int .i64 a, .int .i64 b] w fun e w' => e = .returned (.tuple #[.int .i64 (giveF 6 a b), .bool (canF 6 b)]) ∧ w' = w := by
  by_cases hc : a = b
  · subst hc
    go_enter Try.func69, Try.ntmps69
    go_wp2_with (go_at_call 44; refine (oneIf_any _ _).mono ?_; rintro e w' ⟨rfl, rfl⟩)
    go_ret2
    exact ⟨ret_pair (by simp [giveF, canF, rawF]) (by simp [canF]), rfl⟩
  · have hq : (a == b) = false := by simp [hc]
    go_enter Try.func69, Try.ntmps69
    go_wp2_with (go_at_call 44; refine (oneIf_any _ _).mono ?_; rintro e w' ⟨rfl, rfl⟩)
    go_ret2
    exact ⟨ret_pair (by simp [giveF, canF, rawF]; omega) (by simp [canF]), rfl⟩

theorem never_any (a b : Int) (w : World) : Calls Try.prog 70 #[.int .i64 a, .int .i64 b] w fun e w' => e = .returned (.tuple #[.int .i64 0, .bool false]) ∧ w' = w := by
  go_enter Try.func70, Try.ntmps70
  go_wp2
  go_ret2
  exact ⟨rfl, rfl⟩

theorem do_can {op a b : Int} (ha : isW a = true) (hb : isW b = true) : doOk op a b = canF op b := by simp [doOk, ha, hb]
theorem wrap0 : wrapF 0 = 0 := by decide
theorem do_give {op a b : Int} (ha : isW a = true) (hb : isW b = true) : doF op a b = wrapF (giveF op a b) := by
  unfold doF giveF; rw [do_can ha hb]; split
  · rfl
  · exact wrap0.symm
theorem can_out {op b : Int} (h : op < 1 ∨ 6 < op) : canF op b = false := by simp [canF]; omega
theorem give_out {op a b : Int} (h : op < 1 ∨ 6 < op) : giveF op a b = 0 := by simp [giveF, can_out h]

set_option maxHeartbeats 1000000 in
theorem do_impl_in (op a b : Int) (w : World) (ha : isW a = true) (hb : isW b = true) :
    Calls Try.prog 29 #[.int .i64 op, .int .i64 a, .int .i64 b] w fun e w' => e = .returned (.tuple #[.int .i64 (doF op a b), .bool (doOk op a b)]) ∧ Below w.heap.size w w' := by
  rw [do_can ha hb, do_give ha hb]
  obtain ⟨ha1, ha2⟩ := isW_t ha
  obtain ⟨hb1, hb2⟩ := isW_t hb
  clear ha hb
  have hd := deedOf_any op
  rcases op_cases op with rfl | rfl | rfl | rfl | rfl | rfl | h
  · clear hd
    go_enter Try.func29, Try.ntmps29
    go_wp2_with (first | (go_at_call 55; refine (isWord_any _ _).mono ?_; rintro e w' ⟨rfl, rfl⟩; rw [isW_of (by assumption) (by assumption)]) | (go_at_call 43; refine (deedOf_any _ _).mono ?_; rintro e w' ⟨rfl, hbel⟩; rw [show deedNo 1 = 64 from rfl]) | (go_at_call 64; refine (add_any _ _ _ ha1 ha2 hb1 hb2).mono ?_; rintro e w' ⟨rfl, rfl⟩) | (go_at_call 24; refine (wrap_impl _ _).mono ?_; rintro e w' ⟨rfl, rfl⟩))
    go_ret2
    exact ⟨rfl, by assumption⟩
  · clear hd
    go_enter Try.func29, Try.ntmps29
    go_wp2_with (first | (go_at_call 55; refine (isWord_any _ _).mono ?_; rintro e w' ⟨rfl, rfl⟩; rw [isW_of (by assumption) (by assumption)]) | (go_at_call 43; refine (deedOf_any _ _).mono ?_; rintro e w' ⟨rfl, hbel⟩; rw [show deedNo 2 = 65 from rfl]) | (go_at_call 65; refine (sub_any _ _ _ ha1 ha2 hb1 hb2).mono ?_; rintro e w' ⟨rfl, rfl⟩) | (go_at_call 24; refine (wrap_impl _ _).mono ?_; rintro e w' ⟨rfl, rfl⟩))
    go_ret2
    exact ⟨rfl, by assumption⟩
  · clear hd
    go_enter Try.func29, Try.ntmps29
    go_wp2_with (first | (go_at_call 55; refine (isWord_any _ _).mono ?_; rintro e w' ⟨rfl, rfl⟩; rw [isW_of (by assumption) (by assumption)]) | (go_at_call 43; refine (deedOf_any _ _).mono ?_; rintro e w' ⟨rfl, hbel⟩; rw [show deedNo 3 = 66 from rfl]) | (go_at_call 66; refine (mul_any _ _ _ ha1 ha2 hb1 hb2).mono ?_; rintro e w' ⟨rfl, rfl⟩) | (go_at_call 24; refine (wrap_impl _ _).mono ?_; rintro e w' ⟨rfl, rfl⟩))
    go_ret2
    exact ⟨rfl, by assumption⟩
  · clear hd
    go_enter Try.func29, Try.ntmps29
    go_wp2_with (first | (go_at_call 55; refine (isWord_any _ _).mono ?_; rintro e w' ⟨rfl, rfl⟩; rw [isW_of (by assumption) (by assumption)]) | (go_at_call 43; refine (deedOf_any _ _).mono ?_; rintro e w' ⟨rfl, hbel⟩; rw [show deedNo 4 = 67 from rfl]) | (go_at_call 67; refine (div_any _ _ _ ha1 ha2 hb1 hb2).mono ?_; rintro e w' ⟨rfl, rfl⟩) | (go_at_call 24; refine (wrap_impl _ _).mono ?_; rintro e w' ⟨rfl, rfl⟩))
    go_ret2
    exact ⟨rfl, by assumption⟩
  · clear hd
    go_enter Try.func29, Try.ntmps29
    go_wp2_with (first | (go_at_call 55; refine (isWord_any _ _).mono ?_; rintro e w' ⟨rfl, rfl⟩; rw [isW_of (by assumption) (by assumption)]) | (go_at_call 43; refine (deedOf_any _ _).mono ?_; rintro e w' ⟨rfl, hbel⟩; rw [show deedNo 5 = 68 from rfl]) | (go_at_call 68; refine (less_any _ _ _ ha1 ha2 hb1 hb2).mono ?_; rintro e w' ⟨rfl, rfl⟩) | (go_at_call 24; refine (wrap_impl _ _).mono ?_; rintro e w' ⟨rfl, rfl⟩))
    go_ret2
    exact ⟨rfl, by assumption⟩
  · clear hd
    go_enter Try.func29, Try.ntmps29
    go_wp2_with (first | (go_at_call 55; refine (isWord_any _ _).mono ?_; rintro e w' ⟨rfl, rfl⟩; rw [isW_of (by assumption) (by assumption)]) | (go_at_call 43; refine (deedOf_any _ _).mono ?_; rintro e w' ⟨rfl, hbel⟩; rw [show deedNo 6 = 69 from rfl]) | (go_at_call 69; refine (same_any _ _ _ ha1 ha2 hb1 hb2).mono ?_; rintro e w' ⟨rfl, rfl⟩) | (go_at_call 24; refine (wrap_impl _ _).mono ?_; rintro e w' ⟨rfl, rfl⟩))
    go_ret2
    exact ⟨rfl, by assumption⟩
  · clear hd
    rw [can_out h, give_out h, wrap0]
    have hno : Hid (deedNo op = 70) := deedNo_out h
    clear h
    go_enter Try.func29, Try.ntmps29
    go_wp2_with (first | (go_at_call 55; refine (isWord_any _ _).mono ?_; rintro e w' ⟨rfl, rfl⟩; rw [isW_of (by assumption) (by assumption)]) | (go_at_call 43; refine (deedOf_any _ _).mono ?_; rintro e w' ⟨rfl, hbel⟩; rw [hno.out]) | (go_at_call 70; refine (never_any _ _ _).mono ?_; rintro e w' ⟨rfl, rfl⟩) | (go_at_call 24; refine (wrap_impl _ _).mono ?_; rintro e w' ⟨rfl, rfl⟩))
    go_ret2
    exact ⟨rfl, by assumption⟩

theorem do_impl (op a b : Int) (w : World) :
    Calls Try.prog 29 #[.int .i64 op, .int .i64 a, .int .i64 b] w fun e w' => e = .returned (.tuple #[.int .i64 (doF op a b), .bool (doOk op a b)]) ∧ Below w.heap.size w w' := by
  cases ha : isW a
  · have e1 : doOk op a b = false := by simp [doOk, ha]
    have e2 : doF op a b = 0 := by simp [doF, e1]
    rw [e1, e2]
    clear e1 e2
    go_enter Try.func29, Try.ntmps29
    go_wp2_with (first | (go_at_call 55; refine (isWord_any _ _).mono ?_; rintro e w' ⟨rfl, rfl⟩))
    go_ret2
    exact ⟨rfl, Below.refl _ _⟩
  · cases hb : isW b
    · have e1 : doOk op a b = false := by simp [doOk, hb]
      have e2 : doF op a b = 0 := by simp [doF, e1]
      rw [e1, e2]
      clear e1 e2
      go_enter Try.func29, Try.ntmps29
      go_wp2_with (first | (go_at_call 55; refine (isWord_any _ _).mono ?_; rintro e w' ⟨rfl, rfl⟩))
      go_ret2
      exact ⟨rfl, Below.refl _ _⟩
    · exact do_impl_in op a b w ha hb

end Go.Proofs.Ytlnfjjciilieeaa
