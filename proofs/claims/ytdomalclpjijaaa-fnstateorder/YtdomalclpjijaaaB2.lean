import Derived.Test.YtdomalclpjijaaaB1
/-
  The contracts of the functions on one span and on two (ok, of, has, in), the program's and the model's.
-/
namespace Go.Proofs.Ytdomalclpjijaaa
open Go.RowKit
set_option linter.unusedVariables false

theorem bcell {W w1 : World} (hb : Below W.heap.size W w1) : (∀ b o, b < W.heap.size → w1.cell? ⟨b, o, none⟩ = W.cell? ⟨b, o, none⟩) ∧ (∀ b o, b < W.heap.size → w1.frozen? ⟨b, o, none⟩ = W.frozen? ⟨b, o, none⟩) :=
  ⟨fun b o h => hb.cell (p := ⟨b, o, none⟩) h, fun b o h => hb.frozen (p := ⟨b, o, none⟩) h⟩


theorem okF_t {l u : Int} (h : -16 ≤ l ∧ l ≤ 15 ∧ -16 ≤ u ∧ u ≤ 15 ∧ l ≤ u) : okF true l u = true := by simp [okF]; omega
theorem okF_n {l u : Int} (h : ¬ (-16 ≤ l ∧ l ≤ 15 ∧ -16 ≤ u ∧ u ≤ 15 ∧ l ≤ u)) : okF true l u = false := by simp only [okF, if_true, decide_eq_false_iff_not]; exact h
theorem okF_d {l u : Int} (h1 : -16 ≤ l) (h2 : l ≤ 15) (h3 : -16 ≤ u) (h4 : u ≤ 15) : okF true l u = decide (l ≤ u) := by simp [okF, h1, h2, h3, h4]
/-- what is handed back is the span s -/
def RetSp (s : Sp) (e : Ending) : Prop := e = .returned (.agg #[.bool s.1, .int .i64 s.2.1, .int .i64 s.2.2])
theorem RetSp.out {s : Sp} {e : Ending} (h : RetSp s e) : ∃ a l u, Hid (s = (a, l, u)) ∧ e = .returned (.agg #[.bool a, .int .i64 l, .int .i64 u]) := ⟨s.1, s.2.1, s.2.2, rfl, h⟩
theorem RetSp.mk {s : Sp} {a : Bool} {l u : Int} (h : s = (a, l, u)) : RetSp s (.returned (.agg #[.bool a, .int .i64 l, .int .i64 u])) := by subst h; rfl

set_option maxHeartbeats 400000 in
theorem ok_spec (a : Bool) (l u : Int) (w : World) : Calls Try.prog 65 #[.agg #[.bool a, .int .i64 l, .int .i64 u]] w fun e w' => e = .returned (.bool (okF a l u)) ∧ Below w.heap.size w w' := by
  cases a
  · go_enter Try.func65, Try.ntmps65
    go_wp2
    all_goals
      go_ret
      exact ⟨ret_bool (by simp [okF, *]), by go_grown⟩
  · cases h1 : isW l
    · have h1' := isW_f h1
      go_enter Try.func65, Try.ntmps65
      go_wp2_with (go_at_call 72; refine (l1Word_any _ _).mono ?_; rintro e w' ⟨rfl, rfl⟩)
      go_ret
      exact ⟨ret_bool (okF_n (by omega)).symm, by go_grown⟩
    · have h1' := isW_t h1
      cases h2 : isW u
      · have h2' := isW_f h2
        go_enter Try.func65, Try.ntmps65
        go_wp2_with (go_at_call 72; refine (l1Word_any _ _).mono ?_; rintro e w' ⟨rfl, rfl⟩)
        go_ret
        exact ⟨ret_bool (okF_n (by omega)).symm, by go_grown⟩
      · have h2' := isW_t h2
        go_enter Try.func65, Try.ntmps65
        go_wp2_with (go_at_call 72; refine (l1Word_any _ _).mono ?_; rintro e w' ⟨rfl, rfl⟩)
        go_ret
        exact ⟨ret_bool (okF_d h1'.1 h1'.2 h2'.1 h2'.2).symm, by go_grown⟩

set_option maxHeartbeats 400000 in
theorem ok_impl (a : Bool) (l u : Int) (w : World) : Calls Try.prog 57 #[.agg #[.bool a, .int .i64 l, .int .i64 u]] w fun e w' => e = .returned (.bool (okF a l u)) ∧ Below w.heap.size w w' := by
  cases a
  · go_enter Try.func57, Try.ntmps57
    go_wp2
    all_goals
      go_ret
      exact ⟨ret_bool (by simp [okF, *]), by go_grown⟩
  · cases h1 : isW l
    · have h1' := isW_f h1
      go_enter Try.func57, Try.ntmps57
      go_wp2_with (go_at_call 69; refine (isWord_any _ _).mono ?_; rintro e w' ⟨rfl, rfl⟩)
      go_ret
      exact ⟨ret_bool (okF_n (by omega)).symm, by go_grown⟩
    · have h1' := isW_t h1
      cases h2 : isW u
      · have h2' := isW_f h2
        go_enter Try.func57, Try.ntmps57
        go_wp2_with (go_at_call 69; refine (isWord_any _ _).mono ?_; rintro e w' ⟨rfl, rfl⟩)
        go_ret
        exact ⟨ret_bool (okF_n (by omega)).symm, by go_grown⟩
      · have h2' := isW_t h2
        go_enter Try.func57, Try.ntmps57
        go_wp2_with (go_at_call 69; refine (isWord_any _ _).mono ?_; rintro e w' ⟨rfl, rfl⟩)
        go_ret
        exact ⟨ret_bool (okF_d h1'.1 h1'.2 h2'.1 h2'.2).symm, by go_grown⟩

set_option maxHeartbeats 400000 in
theorem toSpan_any (a : Bool) (l u : Int) (w : World) : Calls Try.prog 33 #[.agg #[.bool a, .int .i64 l, .int .i64 u]] w fun e w' => e = .returned (.agg #[.bool a, .int .i64 l, .int .i64 u]) ∧ Below w.heap.size w w' := by
  go_enter Try.func33, Try.ntmps33
  go_wp2
  go_returns
  exact ⟨rfl, by go_grown⟩

set_option maxHeartbeats 400000 in
theorem eqSpan_same (a : Bool) (l u : Int) (w : World) : Calls Try.prog 37 #[.agg #[.bool a, .int .i64 l, .int .i64 u], .agg #[.bool a, .int .i64 l, .int .i64 u]] w fun e w' => e = .returned (.bool true) ∧ Below w.heap.size w w' := by
  go_enter Try.func37, Try.ntmps37
  go_wp2
  go_ret
  exact ⟨rfl, by go_grown⟩

set_option maxHeartbeats 400000 in
theorem l1Of_any (lo hi : Int) (w : World) : Calls Try.prog 70 #[.int .i64 lo, .int .i64 hi] w fun e w' => RetSp (mkF lo hi) e ∧ Below w.heap.size w w' := by
  by_cases h : hi < lo
  · go_enter Try.func70, Try.ntmps70
    go_wp2
    go_returns
    exact ⟨RetSp.mk (by simp [mkF, h, noSp]), by go_grown⟩
  · go_enter Try.func70, Try.ntmps70
    go_wp2
    go_returns
    exact ⟨RetSp.mk (by unfold mkF; rw [if_neg (by omega)]), by go_grown⟩

end Go.Proofs.Ytdomalclpjijaaa

/-
  The contracts of the program's stretch (at one number and at two) and SpanOf.
-/
namespace Go.Proofs.Ytdomalclpjijaaa
open Go.RowKit
set_option linter.unusedVariables false

/-- a span with one number more -/
def addF (a : Bool) (l u n : Int) : Sp := if a = true then (true, min l n, max u n) else (true, n, n)
set_option maxHeartbeats 400000 in
theorem stretch1 (a : Bool) (l u n : Int) (b : Nat) (w : World) (hc : w.cell? ⟨b, 0, none⟩ = some (.int .i64 n)) (hb : b < w.heap.size) :
    Calls Try.prog 58 #[.agg #[.bool a, .int .i64 l, .int .i64 u], .slice (some ⟨b, 0, none⟩) 1 1] w fun e w' => RetSp (addF a l u n) e ∧ Below w.heap.size w w' := by
  have hne : ¬ b = w.heap.size := by omega
  cases a
  · go_enter Try.func58, Try.ntmps58
    go_wp2
    go_rounds 2
    go_returns
    exact ⟨RetSp.mk (by simp [addF]), by go_grown⟩
  · go_enter Try.func58, Try.ntmps58
    go_wp2
    go_rounds 2
    all_goals
      go_returns
      exact ⟨RetSp.mk (by simp [addF]; omega), by go_grown⟩

set_option maxHeartbeats 1000000 in
theorem stretch2 (a : Bool) (l u n m : Int) (b : Nat) (w : World) (hnm : n ≤ m) (hc : w.cell? ⟨b, 0, none⟩ = some (.int .i64 n)) (hc1 : w.cell? ⟨b, 1, none⟩ = some (.int .i64 m)) (hb : b < w.heap.size) :
    Calls Try.prog 58 #[.agg #[.bool a, .int .i64 l, .int .i64 u], .slice (some ⟨b, 0, none⟩) 2 2] w fun e w' => RetSp (if a = true then (true, min l n, max u m) else (true, n, m)) e ∧ Below w.heap.size w w' := by
  have hne : ¬ b = w.heap.size := by omega
  cases a
  · go_enter Try.func58, Try.ntmps58
    go_wp2
    go_rounds 3
    all_goals
      go_returns
      exact ⟨RetSp.mk (by first | (simp; done) | (simp; omega)), by go_grown⟩
  · go_enter Try.func58, Try.ntmps58
    go_wp2
    go_rounds 3
    all_goals
      go_returns
      exact ⟨RetSp.mk (by first | (simp; done) | (simp; omega)), by go_grown⟩

end Go.Proofs.Ytdomalclpjijaaa
