/-
  The contracts of the functions on words (NumWrap, NumDo and what they call), the program's and the model's, and the walks of the laws FnExactNumWrap and FnExactNumDo.
-/
import Derived.Test.YtifpijindmdboaaRows
import Derived.Test.YtifpijindmdboaaMath
import Derived.Handy
import Derived.WalkLawsBesides
import Derived.WalkSpells
import Derived.Deep.QuietTactic
import Derived.BigQuiet
namespace Go.Proofs.Ytifpijindmdboaa
open Go.RowKit
set_option linter.unusedVariables false

theorem ret_int {k : IntKind} {a b : Int} (h : a = b) : Ending.returned (.int k a) = .returned (.int k b) := by rw [h]
theorem ret_bool {a b : Bool} (h : a = b) : Ending.returned (.bool a) = .returned (.bool b) := by rw [h]
theorem ret_two {k : IntKind} {a b : Int} {c d : Bool} (h : a = b) (h' : c = d) : Ending.returned (.tuple #[.int k a, .bool c]) = .returned (.tuple #[.int k b, .bool d]) := by rw [h, h']

theorem st_nil (P : Program) (w : World) (a : Addr) (m : Mode) : (store a .nilFunc m).run P w = stored P w a .nilFunc m := run_store P w a _ m rfl
theorem st_fn (P : Program) (w : World) (a : Addr) (m : Mode) (fn : Fn) (x y : Array Value) : (store a (.func fn x y) m).run P w = stored P w a (.func fn x y) m := run_store P w a _ m rfl
attribute [local go_sem] st_nil st_fn

theorem isW_t {n : Int} (h : isW n = true) : -16 ≤ n ∧ n ≤ 15 := by simpa [isW] using h
theorem isW_f {n : Int} (h : isW n = false) : n < -16 ∨ 15 < n := by simp [isW] at h; omega
theorem isW_of {n : Int} (h1 : -16 ≤ n) (h2 : n ≤ 15) : isW n = true := by simp [isW]; omega

theorem isWord_any (n : Int) (w : World) : Calls Try.prog 108 #[.int .i64 n] w fun e w' => e = .returned (.bool (isW n)) ∧ w' = w := by
  by_cases h1 : -16 ≤ n
  · by_cases h2 : n ≤ 15
    · go_enter Try.func108, Try.ntmps108
      go_wp2
      go_ret
      exact ⟨ret_bool (by simp [isW]; omega), rfl⟩
    · go_enter Try.func108, Try.ntmps108
      go_wp2
      go_ret
      exact ⟨ret_bool (by simp [isW]; omega), rfl⟩
  · go_enter Try.func108, Try.ntmps108
    go_wp2
    go_ret
    exact ⟨ret_bool (by simp [isW]; omega), rfl⟩

theorem l6In_any (n lo hi : Int) (w : World) : Calls Try.prog 73 #[.int .i64 n, .int .i64 lo, .int .i64 hi] w fun e w' => e = .returned (.bool (inB n lo hi)) ∧ w' = w := by
  by_cases h1 : lo ≤ n
  · by_cases h2 : n ≤ hi
    · go_enter Try.func73, Try.ntmps73
      go_wp2
      go_ret
      exact ⟨ret_bool (by simp [inB]; omega), rfl⟩
    · go_enter Try.func73, Try.ntmps73
      go_wp2
      go_ret
      exact ⟨ret_bool (by simp [inB]; omega), rfl⟩
  · go_enter Try.func73, Try.ntmps73
    go_wp2
    go_ret
    exact ⟨ret_bool (by simp [inB]; omega), rfl⟩

theorem l1Word_any (n : Int) (w : World) : Calls Try.prog 104 #[.int .i64 n] w fun e w' => e = .returned (.bool (isW n)) ∧ w' = w := by
  go_enter Try.func104, Try.ntmps104
  go_wp2_with (go_at_call 73; refine (l6In_any _ _ _ _).mono ?_; rintro e w' ⟨rfl, rfl⟩)
  go_ret
  exact ⟨ret_bool rfl, rfl⟩

theorem op_cases (op : Int) : op = 1 ∨ op = 2 ∨ op = 3 ∨ op = 4 ∨ op = 5 ∨ op = 6 ∨ (op < 1 ∨ 6 < op) := by omega
/-- what the function of an operation gives: the number ahead of wrapping (nought where it cannot be), and whether it can be -/
def giveF (op a b : Int) : Int := if canF op b = true then rawF op a b else 0

theorem raw_bd (op a b : Int) (ha1 : -16 ≤ a) (ha2 : a ≤ 15) (hb1 : -16 ≤ b) (hb2 : b ≤ 15) : -256 ≤ rawF op a b ∧ rawF op a b ≤ 256 := by
  have hm : -256 ≤ a * b ∧ a * b ≤ 256 := by
    rcases Int.le_total 0 a with h | h <;> rcases Int.le_total 0 b with h' | h'
    · have := Int.mul_le_mul ha2 hb2 h' (by omega : (0:Int) ≤ 15); have := Int.mul_nonneg h h'; omega
    · have := Int.mul_le_mul ha2 (by omega : -b ≤ 16) (by omega : 0 ≤ -b) (by omega : (0:Int) ≤ 15); have := Int.mul_nonneg h (by omega : 0 ≤ -b); simp only [Int.mul_neg] at *; omega
    · have := Int.mul_le_mul (by omega : -a ≤ 16) hb2 h' (by omega : (0:Int) ≤ 16); have := Int.mul_nonneg (by omega : 0 ≤ -a) h'; simp only [Int.neg_mul] at *; omega
    · have := Int.mul_le_mul (by omega : -a ≤ 16) (by omega : -b ≤ 16) (by omega : 0 ≤ -b) (by omega : (0:Int) ≤ 16); have := Int.mul_nonneg (by omega : 0 ≤ -a) (by omega : 0 ≤ -b); simp only [Int.neg_mul, Int.mul_neg, Int.neg_neg] at *; omega
  have hd : (a.tdiv b).natAbs ≤ a.natAbs := Int.natAbs_tdiv_le_natAbs a b
  unfold rawF
  repeat' split
  all_goals omega

theorem ret_pair {a b : Int} {c d : Bool} (h : a = b) (h' : c = d) : Ending.returned (.tuple #[.int .i64 a, .bool c]) = .returned (.tuple #[.int .i64 b, .bool d]) := by rw [h, h']
theorem do_can {op a b : Int} (ha : isW a = true) (hb : isW b = true) : doOk op a b = canF op b := by simp [doOk, ha, hb]
theorem wrap0 : wrapF 0 = 0 := by decide
theorem do_give {op a b : Int} (ha : isW a = true) (hb : isW b = true) : doF op a b = wrapF (giveF op a b) := by
  unfold doF giveF; rw [do_can ha hb]; split
  · rfl
  · exact wrap0.symm
theorem can_out {op b : Int} (h : op < 1 ∨ 6 < op) : canF op b = false := by simp [canF]; omega
theorem give_out {op a b : Int} (h : op < 1 ∨ 6 < op) : giveF op a b = 0 := by simp [giveF, can_out h]

end Go.Proofs.Ytifpijindmdboaa
