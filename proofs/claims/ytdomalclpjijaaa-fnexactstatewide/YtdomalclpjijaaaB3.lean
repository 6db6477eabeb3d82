import Derived.Test.YtdomalclpjijaaaB2
import Derived.Test.YtdomalclpjijaaaRows
import Derived.Handy
import Derived.WalkLawsBesides
/-
  The contracts of SpanHas and SpanIn, the program's and the model's, and the walks of the laws FnExactSpanOk, FnExactSpanOf, FnExactSpanHas, FnExactSpanIn.
-/
namespace Go.Proofs.Ytdomalclpjijaaa
open Go.RowKit
set_option linter.unusedVariables false

theorem cell3 {W w1 : World} (hb : Below W.heap.size W w1) (b : Nat) (h : b < W.heap.size) :
    w1.cell? ⟨b, 0, none⟩ = W.cell? ⟨b, 0, none⟩ ∧ w1.cell? ⟨b, 1, none⟩ = W.cell? ⟨b, 1, none⟩ ∧ w1.cell? ⟨b, 2, none⟩ = W.cell? ⟨b, 2, none⟩ ∧
    w1.frozen? ⟨b, 0, none⟩ = W.frozen? ⟨b, 0, none⟩ ∧ w1.frozen? ⟨b, 1, none⟩ = W.frozen? ⟨b, 1, none⟩ ∧ w1.frozen? ⟨b, 2, none⟩ = W.frozen? ⟨b, 2, none⟩ :=
  ⟨hb.cell (p := ⟨b, 0, none⟩) h, hb.cell (p := ⟨b, 1, none⟩) h, hb.cell (p := ⟨b, 2, none⟩) h, hb.frozen (p := ⟨b, 0, none⟩) h, hb.frozen (p := ⟨b, 1, none⟩) h, hb.frozen (p := ⟨b, 2, none⟩) h⟩

set_option maxHeartbeats 400000 in
theorem l1Some_any (a : Bool) (l u : Int) (w : World) : Calls Try.prog 48 #[.agg #[.bool a, .int .i64 l, .int .i64 u]] w fun e w' => e = .returned (.bool (a && okF a l u)) ∧ Below w.heap.size w w' := by
  cases a
  · go_enter Try.func48, Try.ntmps48
    go_wp2
    go_ret
    exact ⟨rfl, by go_grown⟩
  · go_enter Try.func48, Try.ntmps48
    go_wp2_with fail
    refine (ok_spec _ _ _ _ ).mono ?_
    rintro e w1 ⟨rfl, hb1⟩
    have hz1 : w.heap.size + 1 ≤ w1.heap.size := by have := hb1.size; first | omega | (simp at this; omega)
    obtain ⟨p1x0, q1x0, r1x0, f1x0, g1x0, h1x0⟩ := cell3 hb1 (w.heap.size) (by go_size)
    go_wp2
    go_ret
    exact ⟨ret_bool (by simp), ((Below.refl _ _).alloc (Nat.le_refl _) _).trans (hb1.mono (by go_size))⟩

set_option maxHeartbeats 400000 in
theorem has_spec (a : Bool) (l u n : Int) (w : World) : Calls Try.prog 47 #[.agg #[.bool a, .int .i64 l, .int .i64 u], .int .i64 n] w fun e w' => e = .returned (.bool (hasF a l u n)) ∧ Below w.heap.size w w' := by
  unfold hasF
  cases ho : okF a l u
  · go_enter Try.func47, Try.ntmps47
    go_wp2_with fail
    refine (l1Some_any _ _ _ _ ).mono ?_
    rintro e w1 ⟨rfl, hb1⟩
    have hz1 : w.heap.size + 1 ≤ w1.heap.size := by have := hb1.size; first | omega | (simp at this; omega)
    obtain ⟨p1x0, q1x0, r1x0, f1x0, g1x0, h1x0⟩ := cell3 hb1 (w.heap.size) (by go_size)
    simp only [ho, Bool.and_false]
    go_wp2
    go_ret
    exact ⟨ret_bool (by simp), ((Below.refl _ _).alloc (Nat.le_refl _) _).trans (hb1.mono (by go_size))⟩
  · cases a
    · go_enter Try.func47, Try.ntmps47
      go_wp2_with fail
      refine (l1Some_any _ _ _ _ ).mono ?_
      rintro e w1 ⟨rfl, hb1⟩
      have hz1 : w.heap.size + 1 ≤ w1.heap.size := by have := hb1.size; first | omega | (simp at this; omega)
      obtain ⟨p1x0, q1x0, r1x0, f1x0, g1x0, h1x0⟩ := cell3 hb1 (w.heap.size) (by go_size)
      simp only [Bool.false_and]
      go_wp2
      go_ret
      exact ⟨ret_bool (by simp), ((Below.refl _ _).alloc (Nat.le_refl _) _).trans (hb1.mono (by go_size))⟩
    · go_enter Try.func47, Try.ntmps47
      go_wp2_with fail
      refine (l1Some_any _ _ _ _ ).mono ?_
      rintro e w1 ⟨rfl, hb1⟩
      have hz1 : w.heap.size + 1 ≤ w1.heap.size := by have := hb1.size; first | omega | (simp at this; omega)
      obtain ⟨p1x0, q1x0, r1x0, f1x0, g1x0, h1x0⟩ := cell3 hb1 (w.heap.size) (by go_size)
      simp only [ho, Bool.and_true]
      go_wp2_with (go_at_call 64; refine (l6In_any _ _ _ _ ).mono ?_; rintro e w' ⟨rfl, rfl⟩)
      go_ret
      exact ⟨ret_bool (by simp [inB]), ((Below.refl _ _).alloc (Nat.le_refl _) _).trans (hb1.mono (by go_size))⟩

set_option maxHeartbeats 400000 in
theorem has_impl (a : Bool) (l u n : Int) (w : World) : Calls Try.prog 45 #[.agg #[.bool a, .int .i64 l, .int .i64 u], .int .i64 n] w fun e w' => e = .returned (.bool (hasF a l u n)) ∧ Below w.heap.size w w' := by
  unfold hasF
  cases ho : okF a l u
  · go_enter Try.func45, Try.ntmps45
    go_wp2_with fail
    refine (ok_impl _ _ _ _ ).mono ?_
    rintro e w1 ⟨rfl, hb1⟩
    have hz1 : w.heap.size + 1 ≤ w1.heap.size := by have := hb1.size; first | omega | (simp at this; omega)
    obtain ⟨p1x0, q1x0, r1x0, f1x0, g1x0, h1x0⟩ := cell3 hb1 (w.heap.size) (by go_size)
    simp only [ho]
    go_wp2
    go_ret
    exact ⟨ret_bool (by simp), ((Below.refl _ _).alloc (Nat.le_refl _) _).trans (hb1.mono (by go_size))⟩
  · cases a
    · go_enter Try.func45, Try.ntmps45
      go_wp2_with fail
      refine (ok_impl _ _ _ _ ).mono ?_
      rintro e w1 ⟨rfl, hb1⟩
      have hz1 : w.heap.size + 1 ≤ w1.heap.size := by have := hb1.size; first | omega | (simp at this; omega)
      obtain ⟨p1x0, q1x0, r1x0, f1x0, g1x0, h1x0⟩ := cell3 hb1 (w.heap.size) (by go_size)
      simp only [ho]
      go_wp2
      go_ret
      exact ⟨ret_bool (by simp), ((Below.refl _ _).alloc (Nat.le_refl _) _).trans (hb1.mono (by go_size))⟩
    · by_cases h1 : l ≤ n
      · go_enter Try.func45, Try.ntmps45
        go_wp2_with fail
        refine (ok_impl _ _ _ _ ).mono ?_
        rintro e w1 ⟨rfl, hb1⟩
        have hz1 : w.heap.size + 1 ≤ w1.heap.size := by have := hb1.size; first | omega | (simp at this; omega)
        obtain ⟨p1x0, q1x0, r1x0, f1x0, g1x0, h1x0⟩ := cell3 hb1 (w.heap.size) (by go_size)
        simp only [ho]
        go_wp2
        go_ret
        exact ⟨ret_bool (by simp [h1]), ((Below.refl _ _).alloc (Nat.le_refl _) _).trans (hb1.mono (by go_size))⟩
      · go_enter Try.func45, Try.ntmps45
        go_wp2_with fail
        refine (ok_impl _ _ _ _ ).mono ?_
        rintro e w1 ⟨rfl, hb1⟩
        have hz1 : w.heap.size + 1 ≤ w1.heap.size := by have := hb1.size; first | omega | (simp at this; omega)
        obtain ⟨p1x0, q1x0, r1x0, f1x0, g1x0, h1x0⟩ := cell3 hb1 (w.heap.size) (by go_size)
        simp only [ho]
        go_wp2
        go_ret
        exact ⟨ret_bool (by simp; omega), ((Below.refl _ _).alloc (Nat.le_refl _) _).trans (hb1.mono (by go_size))⟩

end Go.Proofs.Ytdomalclpjijaaa

/-
  Plain facts that many texts use.
-/
namespace Go.Proofs.Ytdomalclpjijaaa
open Go.RowKit
set_option linter.unusedVariables false
set_option linter.unusedSimpArgs false

theorem retInt {k : IntKind} {a b : Int} (h : a = b) : Ending.returned (.int k a) = .returned (.int k b) := by rw [h]
theorem sc_other {w : World} {a b : Addr} {v : Value} (h : a ≠ b) : (w.setCell a v).cell? b = w.cell? b := World.cell?_setCell_other w a b v h
theorem sc_same {w : World} {a : Addr} {v u : Value} (h : w.cell? a = some u) : (w.setCell a v).cell? a = some v := World.cell?_setCell_same w a v h

end Go.Proofs.Ytdomalclpjijaaa
