/-
  The contracts of the functions on one span and on two (ok, of, has, in), the program's and the model's.
-/
import Derived.Test.YtifpijindmdboaaNum
namespace Go.Proofs.Ytifpijindmdboaa
open Go.RowKit
set_option linter.unusedVariables false

theorem bcell {W w1 : World} (hb : Below W.heap.size W w1) : (∀ b o, b < W.heap.size → w1.cell? ⟨b, o, none⟩ = W.cell? ⟨b, o, none⟩) ∧ (∀ b o, b < W.heap.size → w1.frozen? ⟨b, o, none⟩ = W.frozen? ⟨b, o, none⟩) :=
  ⟨fun b o h => hb.cell (p := ⟨b, o, none⟩) h, fun b o h => hb.frozen (p := ⟨b, o, none⟩) h⟩


theorem okF_t {l u : Int} (h : -16 ≤ l ∧ l ≤ 15 ∧ -16 ≤ u ∧ u ≤ 15 ∧ l ≤ u) : okF true l u = true := by simp [okF]; omega
theorem okF_n {l u : Int} (h : ¬ (-16 ≤ l ∧ l ≤ 15 ∧ -16 ≤ u ∧ u ≤ 15 ∧ l ≤ u)) : okF true l u = false := by simp only [okF, if_true, decide_eq_false_iff_not]; exact h
theorem okF_d {l u : Int} (h1 : -16 ≤ l) (h2 : l ≤ 15) (h3 : -16 ≤ u) (h4 : u ≤ 15) : okF true l u = decide (l ≤ u) := by simp [okF, h1, h2, h3, h4]
/-- what is handed back is the span s -/
def RetSp (s : Sp) (e : Ending) : Prop := e = .returned (.agg #[.bool s.1, .int .i64 s.2.1, .int .i64 s.2.2])
theorem RetSp.out {s : Sp} {e : Ending} (h : RetSp s e) : ∃ a l u, Hid (s = (a, l, u)) ∧ e = .returned (.agg #[.bool a, .int .i64 l, .int .i64 u]) := ⟨s.1, s.2.1, s.2.2, rfl, h⟩
theorem RetSp.mk {s : Sp} {a : Bool} {l u : Int} (h : s = (a, l, u)) : RetSp s (.returned (.agg #[.bool a, .int .i64 l, .int .i64 u])) := by subst h; rfl

set_option maxHeartbeats 400000 in
theorem ok_spec (a : Bool) (l u : Int) (w : World) : Calls Try.prog 134 #[.agg #[.bool a, .int .i64 l, .int .i64 u]] w fun e w' => e = .returned (.bool (okF a l u)) ∧ Below w.heap.size w w' := by
  cases a
  · go_enter Try.func134, Try.ntmps134
    go_wp2
    all_goals
      go_ret
      exact ⟨ret_bool (by simp [okF, *]), by go_grown⟩
  · cases h1 : isW l
    · have h1' := isW_f h1
      go_enter Try.func134, Try.ntmps134
      go_wp2_with (go_at_call 104; refine (l1Word_any _ _).mono ?_; rintro e w' ⟨rfl, rfl⟩)
      go_ret
      exact ⟨ret_bool (okF_n (by omega)).symm, by go_grown⟩
    · have h1' := isW_t h1
      cases h2 : isW u
      · have h2' := isW_f h2
        go_enter Try.func134, Try.ntmps134
        go_wp2_with (go_at_call 104; refine (l1Word_any _ _).mono ?_; rintro e w' ⟨rfl, rfl⟩)
        go_ret
        exact ⟨ret_bool (okF_n (by omega)).symm, by go_grown⟩
      · have h2' := isW_t h2
        go_enter Try.func134, Try.ntmps134
        go_wp2_with (go_at_call 104; refine (l1Word_any _ _).mono ?_; rintro e w' ⟨rfl, rfl⟩)
        go_ret
        exact ⟨ret_bool (okF_d h1'.1 h1'.2 h2'.1 h2'.2).symm, by go_grown⟩

set_option maxHeartbeats 400000 in
theorem ok_impl (a : Bool) (l u : Int) (w : World) : Calls Try.prog 135 #[.agg #[.bool a, .int .i64 l, .int .i64 u]] w fun e w' => e = .returned (.bool (okF a l u)) ∧ Below w.heap.size w w' := by
  cases a
  · go_enter Try.func135, Try.ntmps135
    go_wp2
    all_goals
      go_ret
      exact ⟨ret_bool (by simp [okF, *]), by go_grown⟩
  · cases h1 : isW l
    · have h1' := isW_f h1
      go_enter Try.func135, Try.ntmps135
      go_wp2_with (go_at_call 108; refine (isWord_any _ _).mono ?_; rintro e w' ⟨rfl, rfl⟩)
      go_ret
      exact ⟨ret_bool (okF_n (by omega)).symm, by go_grown⟩
    · have h1' := isW_t h1
      cases h2 : isW u
      · have h2' := isW_f h2
        go_enter Try.func135, Try.ntmps135
        go_wp2_with (go_at_call 108; refine (isWord_any _ _).mono ?_; rintro e w' ⟨rfl, rfl⟩)
        go_ret
        exact ⟨ret_bool (okF_n (by omega)).symm, by go_grown⟩
      · have h2' := isW_t h2
        go_enter Try.func135, Try.ntmps135
        go_wp2_with (go_at_call 108; refine (isWord_any _ _).mono ?_; rintro e w' ⟨rfl, rfl⟩)
        go_ret
        exact ⟨ret_bool (okF_d h1'.1 h1'.2 h2'.1 h2'.2).symm, by go_grown⟩

set_option maxHeartbeats 400000 in
theorem toSpan_any (a : Bool) (l u : Int) (w : World) : Calls Try.prog 47 #[.agg #[.bool a, .int .i64 l, .int .i64 u]] w fun e w' => e = .returned (.agg #[.bool a, .int .i64 l, .int .i64 u]) ∧ Below w.heap.size w w' := by
  go_enter Try.func47, Try.ntmps47
  go_wp2
  go_returns
  exact ⟨rfl, by go_grown⟩

set_option maxHeartbeats 400000 in
theorem eqSpan_same (a : Bool) (l u : Int) (w : World) : Calls Try.prog 15 #[.agg #[.bool a, .int .i64 l, .int .i64 u], .agg #[.bool a, .int .i64 l, .int .i64 u]] w fun e w' => e = .returned (.bool true) ∧ Below w.heap.size w w' := by
  go_enter Try.func15, Try.ntmps15
  go_wp2
  go_ret
  exact ⟨rfl, by go_grown⟩

set_option maxHeartbeats 400000 in
theorem l1Of_any (lo hi : Int) (w : World) : Calls Try.prog 81 #[.int .i64 lo, .int .i64 hi] w fun e w' => RetSp (mkF lo hi) e ∧ Below w.heap.size w w' := by
  by_cases h : hi < lo
  · go_enter Try.func81, Try.ntmps81
    go_wp2
    go_returns
    exact ⟨RetSp.mk (by simp [mkF, h, noSp]), by go_grown⟩
  · go_enter Try.func81, Try.ntmps81
    go_wp2
    go_returns
    exact ⟨RetSp.mk (by unfold mkF; rw [if_neg (by omega)]), by go_grown⟩

end Go.Proofs.Ytifpijindmdboaa
