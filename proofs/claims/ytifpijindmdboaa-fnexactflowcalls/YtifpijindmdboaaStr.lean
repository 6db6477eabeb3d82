/-
  The contracts of the program's stretch (at one number and at two) and SpanOf.
-/
import Derived.Test.YtifpijindmdboaaSpan
namespace Go.Proofs.Ytifpijindmdboaa
open Go.RowKit
set_option linter.unusedVariables false

/-- a span with one number more -/
def addF (a : Bool) (l u n : Int) : Sp := if a = true then (true, min l n, max u n) else (true, n, n)
set_option maxHeartbeats 400000 in
theorem stretch1 (a : Bool) (l u n : Int) (b : Nat) (w : World) (hc : w.cell? ⟨b, 0, none⟩ = some (.int .i64 n)) (hb : b < w.heap.size) :
    Calls Try.prog 117 #[.agg #[.bool a, .int .i64 l, .int .i64 u], .slice (some ⟨b, 0, none⟩) 1 1] w fun e w' => RetSp (addF a l u n) e ∧ Below w.heap.size w w' := by
  have hne : ¬ b = w.heap.size := by omega
  cases a
  · go_enter Try.func117, Try.ntmps117
    go_wp2
    go_rounds 2
    go_returns
    exact ⟨RetSp.mk (by simp [addF]), by go_grown⟩
  · go_enter Try.func117, Try.ntmps117
    go_wp2
    go_rounds 2
    all_goals
      go_returns
      exact ⟨RetSp.mk (by simp [addF]; omega), by go_grown⟩

set_option maxHeartbeats 1000000 in
theorem stretch2 (a : Bool) (l u n m : Int) (b : Nat) (w : World) (hnm : n ≤ m) (hc : w.cell? ⟨b, 0, none⟩ = some (.int .i64 n)) (hc1 : w.cell? ⟨b, 1, none⟩ = some (.int .i64 m)) (hb : b < w.heap.size) :
    Calls Try.prog 117 #[.agg #[.bool a, .int .i64 l, .int .i64 u], .slice (some ⟨b, 0, none⟩) 2 2] w fun e w' => RetSp (if a = true then (true, min l n, max u m) else (true, n, m)) e ∧ Below w.heap.size w w' := by
  have hne : ¬ b = w.heap.size := by omega
  cases a
  · go_enter Try.func117, Try.ntmps117
    go_wp2
    go_rounds 3
    all_goals
      go_returns
      exact ⟨RetSp.mk (by first | (simp; done) | (simp; omega)), by go_grown⟩
  · go_enter Try.func117, Try.ntmps117
    go_wp2
    go_rounds 3
    all_goals
      go_returns
      exact ⟨RetSp.mk (by first | (simp; done) | (simp; omega)), by go_grown⟩

set_option maxHeartbeats 400000 in
theorem of_impl (n : Int) (w : World) : Calls Try.prog 86 #[.int .i64 n] w fun e w' => RetSp (ofF n) e ∧ Below w.heap.size w w' := by
  cases h : isW n
  · go_enter Try.func86, Try.ntmps86
    go_wp2_with (go_at_call 108; refine (isWord_any _ _).mono ?_; rintro e w' ⟨rfl, rfl⟩)
    go_returns
    exact ⟨RetSp.mk (by simp [ofF, h, noSp]), by go_grown⟩
  · have e1 : ofF n = addF false 0 0 n := by simp [ofF, addF, h]
    rw [e1]
    clear e1
    go_enter Try.func86, Try.ntmps86
    go_wp2_with (go_at_call 108; refine (isWord_any _ _).mono ?_; rintro e w' ⟨rfl, rfl⟩)
    refine (stretch1 _ _ _ n _ _ (by simp) (by simp)).mono ?_
    rintro e w1 ⟨hs, hb⟩
    obtain ⟨a, l, u, hx, rfl⟩ := hs.out
    obtain ⟨hc, hf⟩ := bcell hb
    go_wp2
    have c0 := (hc w.heap.size 0 (by simp; omega))
    have c1 := (hc w.heap.size 1 (by simp; omega))
    have c2 := (hc w.heap.size 2 (by simp; omega))
    simp at c0 c1 c2
    refine bodyPost_ret (v := .agg #[.bool a, .int .i64 l, .int .i64 u]) (by simp [results, Try.results86, go_sem, c0, c1, c2]) rfl ⟨RetSp.mk hx, ?_⟩
    exact (((((((Below.refl _ _).alloc (Nat.le_refl _) _).alloc (by simp) _).trans (hb.mono (by simp; omega))).setCell (by simp) _).setCell (by simp) _).setCell (by simp) _)

end Go.Proofs.Ytifpijindmdboaa
