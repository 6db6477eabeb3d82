import Derived.Test.YtlkebkajdlgebaaGreatB1
import Derived.Test.YtlkebkajdlgebaaGreatRows
import Derived.Handy
import Derived.WalkLawsBesides
/-
  The contracts of the program's stretch (at one number and at two) and SpanOf.
-/
namespace Go.Proofs.YtlkebkajdlgebaaGreat
open Go.RowKit
set_option linter.unusedVariables false

/-- a span with one number more -/
def addF (a : Bool) (l u n : Int) : Sp := if a = true then (true, min l n, max u n) else (true, n, n)
set_option maxHeartbeats 400000 in
theorem stretch1 (a : Bool) (l u n : Int) (b : Nat) (w : World) (hc : w.cell? ⟨b, 0, none⟩ = some (.int .i64 n)) (hb : b < w.heap.size) :
    Calls Tryz.prog 95 #[.agg #[.bool a, .int .i64 l, .int .i64 u], .slice (some ⟨b, 0, none⟩) 1 1] w fun e w' => RetSp (addF a l u n) e ∧ Below w.heap.size w w' := by
  have hne : ¬ b = w.heap.size := by omega
  cases a
  · go_enter Tryz.func95, Tryz.ntmps95
    go_wp2
    go_rounds 2
    go_returns
    exact ⟨RetSp.mk (by simp [addF]), by go_grown⟩
  · go_enter Tryz.func95, Tryz.ntmps95
    go_wp2
    go_rounds 2
    all_goals
      go_returns
      exact ⟨RetSp.mk (by simp [addF]; omega), by go_grown⟩

set_option maxHeartbeats 1000000 in
theorem stretch2 (a : Bool) (l u n m : Int) (b : Nat) (w : World) (hnm : n ≤ m) (hc : w.cell? ⟨b, 0, none⟩ = some (.int .i64 n)) (hc1 : w.cell? ⟨b, 1, none⟩ = some (.int .i64 m)) (hb : b < w.heap.size) :
    Calls Tryz.prog 95 #[.agg #[.bool a, .int .i64 l, .int .i64 u], .slice (some ⟨b, 0, none⟩) 2 2] w fun e w' => RetSp (if a = true then (true, min l n, max u m) else (true, n, m)) e ∧ Below w.heap.size w w' := by
  have hne : ¬ b = w.heap.size := by omega
  cases a
  · go_enter Tryz.func95, Tryz.ntmps95
    go_wp2
    go_rounds 3
    all_goals
      go_returns
      exact ⟨RetSp.mk (by first | (simp; done) | (simp; omega)), by go_grown⟩
  · go_enter Tryz.func95, Tryz.ntmps95
    go_wp2
    go_rounds 3
    all_goals
      go_returns
      exact ⟨RetSp.mk (by first | (simp; done) | (simp; omega)), by go_grown⟩

set_option maxHeartbeats 400000 in
theorem of_impl (n : Int) (w : World) : Calls Tryz.prog 116 #[.int .i64 n] w fun e w' => RetSp (ofF n) e ∧ Below w.heap.size w w' := by
  cases h : isW n
  · go_enter Tryz.func116, Tryz.ntmps116
    go_wp2_with (go_at_call 104; refine (isWord_any _ _).mono ?_; rintro e w' ⟨rfl, rfl⟩)
    go_returns
    exact ⟨RetSp.mk (by simp [ofF, h, noSp]), by go_grown⟩
  · have e1 : ofF n = addF false 0 0 n := by simp [ofF, addF, h]
    rw [e1]
    clear e1
    go_enter Tryz.func116, Tryz.ntmps116
    go_wp2_with (go_at_call 104; refine (isWord_any _ _).mono ?_; rintro e w' ⟨rfl, rfl⟩)
    refine (stretch1 _ _ _ n _ _ (by simp) (by simp)).mono ?_
    rintro e w1 ⟨hs, hb⟩
    obtain ⟨a, l, u, hx, rfl⟩ := hs.out
    obtain ⟨hc, hf⟩ := bcell hb
    go_wp2
    have c0 := (hc w.heap.size 0 (by simp; omega))
    have c1 := (hc w.heap.size 1 (by simp; omega))
    have c2 := (hc w.heap.size 2 (by simp; omega))
    simp at c0 c1 c2
    refine bodyPost_ret (v := .agg #[.bool a, .int .i64 l, .int .i64 u]) (by simp [results, Tryz.results116, go_sem, c0, c1, c2]) rfl ⟨RetSp.mk hx, ?_⟩
    exact (((((((Below.refl _ _).alloc (Nat.le_refl _) _).alloc (by simp) _).trans (hb.mono (by simp; omega))).setCell (by simp) _).setCell (by simp) _).setCell (by simp) _)

end Go.Proofs.YtlkebkajdlgebaaGreat

/-
  The contracts of SpanHas and SpanIn, the program's and the model's, and the walks of the laws FnExactSpanOk, FnExactSpanOf, FnExactSpanHas, FnExactSpanIn.
-/
namespace Go.Proofs.YtlkebkajdlgebaaGreat
open Go.RowKit
set_option linter.unusedVariables false

theorem cell3 {W w1 : World} (hb : Below W.heap.size W w1) (b : Nat) (h : b < W.heap.size) :
    w1.cell? ⟨b, 0, none⟩ = W.cell? ⟨b, 0, none⟩ ∧ w1.cell? ⟨b, 1, none⟩ = W.cell? ⟨b, 1, none⟩ ∧ w1.cell? ⟨b, 2, none⟩ = W.cell? ⟨b, 2, none⟩ ∧
    w1.frozen? ⟨b, 0, none⟩ = W.frozen? ⟨b, 0, none⟩ ∧ w1.frozen? ⟨b, 1, none⟩ = W.frozen? ⟨b, 1, none⟩ ∧ w1.frozen? ⟨b, 2, none⟩ = W.frozen? ⟨b, 2, none⟩ :=
  ⟨hb.cell (p := ⟨b, 0, none⟩) h, hb.cell (p := ⟨b, 1, none⟩) h, hb.cell (p := ⟨b, 2, none⟩) h, hb.frozen (p := ⟨b, 0, none⟩) h, hb.frozen (p := ⟨b, 1, none⟩) h, hb.frozen (p := ⟨b, 2, none⟩) h⟩

set_option maxHeartbeats 400000 in
theorem l1Some_any (a : Bool) (l u : Int) (w : World) : Calls Tryz.prog 89 #[.agg #[.bool a, .int .i64 l, .int .i64 u]] w fun e w' => e = .returned (.bool (a && okF a l u)) ∧ Below w.heap.size w w' := by
  cases a
  · go_enter Tryz.func89, Tryz.ntmps89
    go_wp2
    go_ret
    exact ⟨rfl, by go_grown⟩
  · go_enter Tryz.func89, Tryz.ntmps89
    go_wp2_with fail
    refine (ok_spec _ _ _ _ ).mono ?_
    rintro e w1 ⟨rfl, hb1⟩
    have hz1 : w.heap.size + 1 ≤ w1.heap.size := by have := hb1.size; first | omega | (simp at this; omega)
    obtain ⟨p1x0, q1x0, r1x0, f1x0, g1x0, h1x0⟩ := cell3 hb1 (w.heap.size) (by go_size)
    go_wp2
    go_ret
    exact ⟨ret_bool (by simp), ((Below.refl _ _).alloc (Nat.le_refl _) _).trans (hb1.mono (by go_size))⟩

end Go.Proofs.YtlkebkajdlgebaaGreat

/-
  Plain facts that many texts use.
-/
namespace Go.Proofs.YtlkebkajdlgebaaGreat
open Go.RowKit
set_option linter.unusedVariables false
set_option linter.unusedSimpArgs false

theorem retInt {k : IntKind} {a b : Int} (h : a = b) : Ending.returned (.int k a) = .returned (.int k b) := by rw [h]
theorem sc_other {w : World} {a b : Addr} {v : Value} (h : a ≠ b) : (w.setCell a v).cell? b = w.cell? b := World.cell?_setCell_other w a b v h
theorem sc_same {w : World} {a : Addr} {v u : Value} (h : w.cell? a = some u) : (w.setCell a v).cell? a = some v := World.cell?_setCell_same w a v h

end Go.Proofs.YtlkebkajdlgebaaGreat
