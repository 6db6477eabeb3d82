import Derived.Test.YtbjegekfghihkaaRows
import Derived.Test.YtbjegekfghihkaaB12
import Derived.Handy
import Derived.WalkLawsBesides
import Derived.WalkSpells
import Derived.Deep.QuietTactic
import Derived.BigQuiet
/-
  The contracts of the functions on words (NumWrap, NumDo and what they call), the program's and the model's, and the walks of the laws FnExactNumWrap and FnExactNumDo.
-/
namespace Go.Proofs.Ytbjegekfghihkaa
open Go.RowKit
set_option linter.unusedVariables false

theorem ret_int {k : IntKind} {a b : Int} (h : a = b) : Ending.returned (.int k a) = .returned (.int k b) := by rw [h]
theorem ret_bool {a b : Bool} (h : a = b) : Ending.returned (.bool a) = .returned (.bool b) := by rw [h]
theorem ret_two {k : IntKind} {a b : Int} {c d : Bool} (h : a = b) (h' : c = d) : Ending.returned (.tuple #[.int k a, .bool c]) = .returned (.tuple #[.int k b, .bool d]) := by rw [h, h']

theorem st_nil (P : Program) (w : World) (a : Addr) (m : Mode) : (store a .nilFunc m).run P w = stored P w a .nilFunc m := run_store P w a _ m rfl
theorem st_fn (P : Program) (w : World) (a : Addr) (m : Mode) (fn : Fn) (x y : Array Value) : (store a (.func fn x y) m).run P w = stored P w a (.func fn x y) m := run_store P w a _ m rfl
attribute [local go_sem] st_nil st_fn

theorem isW_t {n : Int} (h : isW n = true) : -16 ≤ n ∧ n ≤ 15 := by simpa [isW] using h
theorem isW_f {n : Int} (h : isW n = false) : n < -16 ∨ 15 < n := by simp [isW] at h; omega
theorem isW_of {n : Int} (h1 : -16 ≤ n) (h2 : n ≤ 15) : isW n = true := by simp [isW]; omega

theorem isWord_any (n : Int) (w : World) : Calls Try.prog 77 #[.int .i64 n] w fun e w' => e = .returned (.bool (isW n)) ∧ w' = w := by
  by_cases h1 : -16 ≤ n
  · by_cases h2 : n ≤ 15
    · go_enter Try.func77, Try.ntmps77
      go_wp2
      go_ret
      exact ⟨ret_bool (by simp [isW]; omega), rfl⟩
    · go_enter Try.func77, Try.ntmps77
      go_wp2
      go_ret
      exact ⟨ret_bool (by simp [isW]; omega), rfl⟩
  · go_enter Try.func77, Try.ntmps77
    go_wp2
    go_ret
    exact ⟨ret_bool (by simp [isW]; omega), rfl⟩

theorem l6In_any (n lo hi : Int) (w : World) : Calls Try.prog 50 #[.int .i64 n, .int .i64 lo, .int .i64 hi] w fun e w' => e = .returned (.bool (inB n lo hi)) ∧ w' = w := by
  by_cases h1 : lo ≤ n
  · by_cases h2 : n ≤ hi
    · go_enter Try.func50, Try.ntmps50
      go_wp2
      go_ret
      exact ⟨ret_bool (by simp [inB]; omega), rfl⟩
    · go_enter Try.func50, Try.ntmps50
      go_wp2
      go_ret
      exact ⟨ret_bool (by simp [inB]; omega), rfl⟩
  · go_enter Try.func50, Try.ntmps50
    go_wp2
    go_ret
    exact ⟨ret_bool (by simp [inB]; omega), rfl⟩

theorem l1Word_any (n : Int) (w : World) : Calls Try.prog 72 #[.int .i64 n] w fun e w' => e = .returned (.bool (isW n)) ∧ w' = w := by
  go_enter Try.func72, Try.ntmps72
  go_wp2_with (go_at_call 50; refine (l6In_any _ _ _ _).mono ?_; rintro e w' ⟨rfl, rfl⟩)
  go_ret
  exact ⟨ret_bool rfl, rfl⟩

theorem op_cases (op : Int) : op = 1 ∨ op = 2 ∨ op = 3 ∨ op = 4 ∨ op = 5 ∨ op = 6 ∨ (op < 1 ∨ 6 < op) := by omega
/-- what the function of an operation gives: the number ahead of wrapping (nought where it cannot be), and whether it can be -/
def giveF (op a b : Int) : Int := if canF op b = true then rawF op a b else 0

theorem raw_bd (op a b : Int) (ha1 : -16 ≤ a) (ha2 : a ≤ 15) (hb1 : -16 ≤ b) (hb2 : b ≤ 15) : -256 ≤ rawF op a b ∧ rawF op a b ≤ 256 := by
  have hm : -256 ≤ a * b ∧ a * b ≤ 256 := by
    rcases Int.le_total 0 a with h | h <;> rcases Int.le_total 0 b with h' | h'
    · have := Int.mul_le_mul ha2 hb2 h' (by omega : (0:Int) ≤ 15); have := Int.mul_nonneg h h'; omega
    · have := Int.mul_le_mul ha2 (by omega : -b ≤ 16) (by omega : 0 ≤ -b) (by omega : (0:Int) ≤ 15); have := Int.mul_nonneg h (by omega : 0 ≤ -b); simp only [Int.mul_neg] at *; omega
    · have := Int.mul_le_mul (by omega : -a ≤ 16) hb2 h' (by omega : (0:Int) ≤ 16); have := Int.mul_nonneg (by omega : 0 ≤ -a) h'; simp only [Int.neg_mul] at *; omega
    · have := Int.mul_le_mul (by omega : -a ≤ 16) (by omega : -b ≤ 16) (by omega : 0 ≤ -b) (by omega : (0:Int) ≤ 16); have := Int.mul_nonneg (by omega : 0 ≤ -a) (by omega : 0 ≤ -b); simp only [Int.neg_mul, Int.mul_neg, Int.neg_neg] at *; omega
  have hd : (a.tdiv b).natAbs ≤ a.natAbs := Int.natAbs_tdiv_le_natAbs a b
  unfold rawF
  repeat' split
  all_goals omega

theorem ret_pair {a b : Int} {c d : Bool} (h : a = b) (h' : c = d) : Ending.returned (.tuple #[.int .i64 a, .bool c]) = .returned (.tuple #[.int .i64 b, .bool d]) := by rw [h, h']
theorem do_can {op a b : Int} (ha : isW a = true) (hb : isW b = true) : doOk op a b = canF op b := by simp [doOk, ha, hb]
theorem wrap0 : wrapF 0 = 0 := by decide
theorem do_give {op a b : Int} (ha : isW a = true) (hb : isW b = true) : doF op a b = wrapF (giveF op a b) := by
  unfold doF giveF; rw [do_can ha hb]; split
  · rfl
  · exact wrap0.symm
theorem can_out {op b : Int} (h : op < 1 ∨ 6 < op) : canF op b = false := by simp [canF]; omega
theorem give_out {op a b : Int} (h : op < 1 ∨ 6 < op) : giveF op a b = 0 := by simp [giveF, can_out h]

end Go.Proofs.Ytbjegekfghihkaa

/-
  The contracts of the functions on one span and on two (ok, of, has, in), the program's and the model's.
-/
namespace Go.Proofs.Ytbjegekfghihkaa
open Go.RowKit
set_option linter.unusedVariables false

theorem bcell {W w1 : World} (hb : Below W.heap.size W w1) : (∀ b o, b < W.heap.size → w1.cell? ⟨b, o, none⟩ = W.cell? ⟨b, o, none⟩) ∧ (∀ b o, b < W.heap.size → w1.frozen? ⟨b, o, none⟩ = W.frozen? ⟨b, o, none⟩) :=
  ⟨fun b o h => hb.cell (p := ⟨b, o, none⟩) h, fun b o h => hb.frozen (p := ⟨b, o, none⟩) h⟩


theorem okF_t {l u : Int} (h : -16 ≤ l ∧ l ≤ 15 ∧ -16 ≤ u ∧ u ≤ 15 ∧ l ≤ u) : okF true l u = true := by simp [okF]; omega
theorem okF_n {l u : Int} (h : ¬ (-16 ≤ l ∧ l ≤ 15 ∧ -16 ≤ u ∧ u ≤ 15 ∧ l ≤ u)) : okF true l u = false := by simp only [okF, if_true, decide_eq_false_iff_not]; exact h
theorem okF_d {l u : Int} (h1 : -16 ≤ l) (h2 : l ≤ 15) (h3 : -16 ≤ u) (h4 : u ≤ 15) : okF true l u = decide (l ≤ u) := by simp [okF, h1, h2, h3, h4]
/-- what is handed back is the span s -/
def RetSp (s : Sp) (e : Ending) : Prop := e = .returned (.agg #[.bool s.1, .int .i64 s.2.1, .int .i64 s.2.2])
theorem RetSp.out {s : Sp} {e : Ending} (h : RetSp s e) : ∃ a l u, Hid (s = (a, l, u)) ∧ e = .returned (.agg #[.bool a, .int .i64 l, .int .i64 u]) := ⟨s.1, s.2.1, s.2.2, rfl, h⟩
theorem RetSp.mk {s : Sp} {a : Bool} {l u : Int} (h : s = (a, l, u)) : RetSp s (.returned (.agg #[.bool a, .int .i64 l, .int .i64 u])) := by subst h; rfl

set_option maxHeartbeats 400000 in
theorem ok_spec (a : Bool) (l u : Int) (w : World) : Calls Try.prog 98 #[.agg #[.bool a, .int .i64 l, .int .i64 u]] w fun e w' => e = .returned (.bool (okF a l u)) ∧ Below w.heap.size w w' := by
  cases a
  · go_enter Try.func98, Try.ntmps98
    go_wp2
    all_goals
      go_ret
      exact ⟨ret_bool (by simp [okF, *]), by go_grown⟩
  · cases h1 : isW l
    · have h1' := isW_f h1
      go_enter Try.func98, Try.ntmps98
      go_wp2_with (go_at_call 72; refine (l1Word_any _ _).mono ?_; rintro e w' ⟨rfl, rfl⟩)
      go_ret
      exact ⟨ret_bool (okF_n (by omega)).symm, by go_grown⟩
    · have h1' := isW_t h1
      cases h2 : isW u
      · have h2' := isW_f h2
        go_enter Try.func98, Try.ntmps98
        go_wp2_with (go_at_call 72; refine (l1Word_any _ _).mono ?_; rintro e w' ⟨rfl, rfl⟩)
        go_ret
        exact ⟨ret_bool (okF_n (by omega)).symm, by go_grown⟩
      · have h2' := isW_t h2
        go_enter Try.func98, Try.ntmps98
        go_wp2_with (go_at_call 72; refine (l1Word_any _ _).mono ?_; rintro e w' ⟨rfl, rfl⟩)
        go_ret
        exact ⟨ret_bool (okF_d h1'.1 h1'.2 h2'.1 h2'.2).symm, by go_grown⟩

set_option maxHeartbeats 400000 in
theorem ok_impl (a : Bool) (l u : Int) (w : World) : Calls Try.prog 100 #[.agg #[.bool a, .int .i64 l, .int .i64 u]] w fun e w' => e = .returned (.bool (okF a l u)) ∧ Below w.heap.size w w' := by
  cases a
  · go_enter Try.func100, Try.ntmps100
    go_wp2
    all_goals
      go_ret
      exact ⟨ret_bool (by simp [okF, *]), by go_grown⟩
  · cases h1 : isW l
    · have h1' := isW_f h1
      go_enter Try.func100, Try.ntmps100
      go_wp2_with (go_at_call 77; refine (isWord_any _ _).mono ?_; rintro e w' ⟨rfl, rfl⟩)
      go_ret
      exact ⟨ret_bool (okF_n (by omega)).symm, by go_grown⟩
    · have h1' := isW_t h1
      cases h2 : isW u
      · have h2' := isW_f h2
        go_enter Try.func100, Try.ntmps100
        go_wp2_with (go_at_call 77; refine (isWord_any _ _).mono ?_; rintro e w' ⟨rfl, rfl⟩)
        go_ret
        exact ⟨ret_bool (okF_n (by omega)).symm, by go_grown⟩
      · have h2' := isW_t h2
        go_enter Try.func100, Try.ntmps100
        go_wp2_with (go_at_call 77; refine (isWord_any _ _).mono ?_; rintro e w' ⟨rfl, rfl⟩)
        go_ret
        exact ⟨ret_bool (okF_d h1'.1 h1'.2 h2'.1 h2'.2).symm, by go_grown⟩

set_option maxHeartbeats 400000 in
theorem toSpan_any (a : Bool) (l u : Int) (w : World) : Calls Try.prog 32 #[.agg #[.bool a, .int .i64 l, .int .i64 u]] w fun e w' => e = .returned (.agg #[.bool a, .int .i64 l, .int .i64 u]) ∧ Below w.heap.size w w' := by
  go_enter Try.func32, Try.ntmps32
  go_wp2
  go_returns
  exact ⟨rfl, by go_grown⟩

set_option maxHeartbeats 400000 in
theorem eqSpan_same (a : Bool) (l u : Int) (w : World) : Calls Try.prog 39 #[.agg #[.bool a, .int .i64 l, .int .i64 u], .agg #[.bool a, .int .i64 l, .int .i64 u]] w fun e w' => e = .returned (.bool true) ∧ Below w.heap.size w w' := by
  go_enter Try.func39, Try.ntmps39
  go_wp2
  go_ret
  exact ⟨rfl, by go_grown⟩

set_option maxHeartbeats 400000 in
theorem l1Of_any (lo hi : Int) (w : World) : Calls Try.prog 99 #[.int .i64 lo, .int .i64 hi] w fun e w' => RetSp (mkF lo hi) e ∧ Below w.heap.size w w' := by
  by_cases h : hi < lo
  · go_enter Try.func99, Try.ntmps99
    go_wp2
    go_returns
    exact ⟨RetSp.mk (by simp [mkF, h, noSp]), by go_grown⟩
  · go_enter Try.func99, Try.ntmps99
    go_wp2
    go_returns
    exact ⟨RetSp.mk (by unfold mkF; rw [if_neg (by omega)]), by go_grown⟩

end Go.Proofs.Ytbjegekfghihkaa
