/-
  The contracts of SpanIn and havePairs, the program's and the model's.
-/
import Derived.Test.YtifpijindmdboaaHas
namespace Go.Proofs.Ytifpijindmdboaa
open Go.RowKit
set_option linter.unusedVariables false

set_option maxHeartbeats 600000 in
theorem in_spec (a : Bool) (al ah : Int) (b : Bool) (bl bh : Int) (w : World) : Calls Try.prog 120 #[.agg #[.bool a, .int .i64 al, .int .i64 ah], .agg #[.bool b, .int .i64 bl, .int .i64 bh]] w fun e w' => e = .returned (.bool (inF a al ah b bl bh)) ∧ Below w.heap.size w w' := by
  unfold inF
  cases ho1 : okF a al ah
  · go_enter Try.func120, Try.ntmps120
    go_wp2_with fail
    refine (ok_spec _ _ _ _ ).mono ?_
    rintro e w1 ⟨rfl, hb1⟩
    have hz1 : w.heap.size + 2 ≤ w1.heap.size := by have := hb1.size; first | omega | (simp at this; omega)
    obtain ⟨p1x0, q1x0, r1x0, f1x0, g1x0, h1x0⟩ := cell3 hb1 (w.heap.size) (by go_size)
    obtain ⟨p1x1, q1x1, r1x1, f1x1, g1x1, h1x1⟩ := cell3 hb1 (w.heap.size + 1) (by go_size)
    simp only [ho1]
    go_wp2
    go_ret
    exact ⟨ret_bool (by simp), (((Below.refl _ _).alloc (Nat.le_refl _) _).alloc (by go_size) _).trans (hb1.mono (by go_size))⟩
  · cases ho2 : okF b bl bh
    · go_enter Try.func120, Try.ntmps120
      go_wp2_with fail
      refine (ok_spec _ _ _ _ ).mono ?_
      rintro e w1 ⟨rfl, hb1⟩
      have hz1 : w.heap.size + 2 ≤ w1.heap.size := by have := hb1.size; first | omega | (simp at this; omega)
      obtain ⟨p1x0, q1x0, r1x0, f1x0, g1x0, h1x0⟩ := cell3 hb1 (w.heap.size) (by go_size)
      obtain ⟨p1x1, q1x1, r1x1, f1x1, g1x1, h1x1⟩ := cell3 hb1 (w.heap.size + 1) (by go_size)
      simp only [ho1]
      go_wp2_with fail
      refine (ok_spec _ _ _ _ ).mono ?_
      rintro e w2 ⟨rfl, hb2⟩
      have hz2 : w.heap.size + 2 ≤ w2.heap.size := by have := hb2.size; first | omega | (simp at this; omega)
      obtain ⟨p2x0, q2x0, r2x0, f2x0, g2x0, h2x0⟩ := cell3 hb2 (w.heap.size) (by go_size)
      obtain ⟨p2x1, q2x1, r2x1, f2x1, g2x1, h2x1⟩ := cell3 hb2 (w.heap.size + 1) (by go_size)
      simp only [ho2]
      go_wp2
      go_ret
      exact ⟨ret_bool (by simp), ((((Below.refl _ _).alloc (Nat.le_refl _) _).alloc (by go_size) _).trans (hb1.mono (by go_size))).trans (hb2.mono (by go_size))⟩
    · cases a
      · go_enter Try.func120, Try.ntmps120
        go_wp2_with fail
        refine (ok_spec _ _ _ _ ).mono ?_
        rintro e w1 ⟨rfl, hb1⟩
        have hz1 : w.heap.size + 2 ≤ w1.heap.size := by have := hb1.size; first | omega | (simp at this; omega)
        obtain ⟨p1x0, q1x0, r1x0, f1x0, g1x0, h1x0⟩ := cell3 hb1 (w.heap.size) (by go_size)
        obtain ⟨p1x1, q1x1, r1x1, f1x1, g1x1, h1x1⟩ := cell3 hb1 (w.heap.size + 1) (by go_size)
        simp only [ho1]
        go_wp2_with fail
        refine (ok_spec _ _ _ _ ).mono ?_
        rintro e w2 ⟨rfl, hb2⟩
        have hz2 : w.heap.size + 2 ≤ w2.heap.size := by have := hb2.size; first | omega | (simp at this; omega)
        obtain ⟨p2x0, q2x0, r2x0, f2x0, g2x0, h2x0⟩ := cell3 hb2 (w.heap.size) (by go_size)
        obtain ⟨p2x1, q2x1, r2x1, f2x1, g2x1, h2x1⟩ := cell3 hb2 (w.heap.size + 1) (by go_size)
        simp only [ho2]
        go_wp2
        go_ret
        exact ⟨ret_bool (by simp), ((((Below.refl _ _).alloc (Nat.le_refl _) _).alloc (by go_size) _).trans (hb1.mono (by go_size))).trans (hb2.mono (by go_size))⟩
      · cases b
        · go_enter Try.func120, Try.ntmps120
          go_wp2_with fail
          refine (ok_spec _ _ _ _ ).mono ?_
          rintro e w1 ⟨rfl, hb1⟩
          have hz1 : w.heap.size + 2 ≤ w1.heap.size := by have := hb1.size; first | omega | (simp at this; omega)
          obtain ⟨p1x0, q1x0, r1x0, f1x0, g1x0, h1x0⟩ := cell3 hb1 (w.heap.size) (by go_size)
          obtain ⟨p1x1, q1x1, r1x1, f1x1, g1x1, h1x1⟩ := cell3 hb1 (w.heap.size + 1) (by go_size)
          simp only [ho1]
          go_wp2_with fail
          refine (ok_spec _ _ _ _ ).mono ?_
          rintro e w2 ⟨rfl, hb2⟩
          have hz2 : w.heap.size + 2 ≤ w2.heap.size := by have := hb2.size; first | omega | (simp at this; omega)
          obtain ⟨p2x0, q2x0, r2x0, f2x0, g2x0, h2x0⟩ := cell3 hb2 (w.heap.size) (by go_size)
          obtain ⟨p2x1, q2x1, r2x1, f2x1, g2x1, h2x1⟩ := cell3 hb2 (w.heap.size + 1) (by go_size)
          simp only [ho2]
          go_wp2
          go_ret
          exact ⟨ret_bool (by simp), ((((Below.refl _ _).alloc (Nat.le_refl _) _).alloc (by go_size) _).trans (hb1.mono (by go_size))).trans (hb2.mono (by go_size))⟩
        · by_cases h1 : bl ≤ al
          · go_enter Try.func120, Try.ntmps120
            go_wp2_with fail
            refine (ok_spec _ _ _ _ ).mono ?_
            rintro e w1 ⟨rfl, hb1⟩
            have hz1 : w.heap.size + 2 ≤ w1.heap.size := by have := hb1.size; first | omega | (simp at this; omega)
            obtain ⟨p1x0, q1x0, r1x0, f1x0, g1x0, h1x0⟩ := cell3 hb1 (w.heap.size) (by go_size)
            obtain ⟨p1x1, q1x1, r1x1, f1x1, g1x1, h1x1⟩ := cell3 hb1 (w.heap.size + 1) (by go_size)
            simp only [ho1]
            go_wp2_with fail
            refine (ok_spec _ _ _ _ ).mono ?_
            rintro e w2 ⟨rfl, hb2⟩
            have hz2 : w.heap.size + 2 ≤ w2.heap.size := by have := hb2.size; first | omega | (simp at this; omega)
            obtain ⟨p2x0, q2x0, r2x0, f2x0, g2x0, h2x0⟩ := cell3 hb2 (w.heap.size) (by go_size)
            obtain ⟨p2x1, q2x1, r2x1, f2x1, g2x1, h2x1⟩ := cell3 hb2 (w.heap.size + 1) (by go_size)
            simp only [ho2]
            go_wp2
            go_ret
            exact ⟨ret_bool (by simp [h1]), ((((Below.refl _ _).alloc (Nat.le_refl _) _).alloc (by go_size) _).trans (hb1.mono (by go_size))).trans (hb2.mono (by go_size))⟩
          · go_enter Try.func120, Try.ntmps120
            go_wp2_with fail
            refine (ok_spec _ _ _ _ ).mono ?_
            rintro e w1 ⟨rfl, hb1⟩
            have hz1 : w.heap.size + 2 ≤ w1.heap.size := by have := hb1.size; first | omega | (simp at this; omega)
            obtain ⟨p1x0, q1x0, r1x0, f1x0, g1x0, h1x0⟩ := cell3 hb1 (w.heap.size) (by go_size)
            obtain ⟨p1x1, q1x1, r1x1, f1x1, g1x1, h1x1⟩ := cell3 hb1 (w.heap.size + 1) (by go_size)
            simp only [ho1]
            go_wp2_with fail
            refine (ok_spec _ _ _ _ ).mono ?_
            rintro e w2 ⟨rfl, hb2⟩
            have hz2 : w.heap.size + 2 ≤ w2.heap.size := by have := hb2.size; first | omega | (simp at this; omega)
            obtain ⟨p2x0, q2x0, r2x0, f2x0, g2x0, h2x0⟩ := cell3 hb2 (w.heap.size) (by go_size)
            obtain ⟨p2x1, q2x1, r2x1, f2x1, g2x1, h2x1⟩ := cell3 hb2 (w.heap.size + 1) (by go_size)
            simp only [ho2]
            go_wp2
            go_ret
            exact ⟨ret_bool (by simp; omega), ((((Below.refl _ _).alloc (Nat.le_refl _) _).alloc (by go_size) _).trans (hb1.mono (by go_size))).trans (hb2.mono (by go_size))⟩

set_option maxHeartbeats 600000 in
theorem in_impl (a : Bool) (al ah : Int) (b : Bool) (bl bh : Int) (w : World) : Calls Try.prog 123 #[.agg #[.bool a, .int .i64 al, .int .i64 ah], .agg #[.bool b, .int .i64 bl, .int .i64 bh]] w fun e w' => e = .returned (.bool (inF a al ah b bl bh)) ∧ Below w.heap.size w w' := by
  unfold inF
  cases ho1 : okF a al ah
  · go_enter Try.func123, Try.ntmps123
    go_wp2_with fail
    refine (ok_impl _ _ _ _ ).mono ?_
    rintro e w1 ⟨rfl, hb1⟩
    have hz1 : w.heap.size + 2 ≤ w1.heap.size := by have := hb1.size; first | omega | (simp at this; omega)
    obtain ⟨p1x0, q1x0, r1x0, f1x0, g1x0, h1x0⟩ := cell3 hb1 (w.heap.size) (by go_size)
    obtain ⟨p1x1, q1x1, r1x1, f1x1, g1x1, h1x1⟩ := cell3 hb1 (w.heap.size + 1) (by go_size)
    simp only [ho1]
    go_wp2
    go_ret
    exact ⟨ret_bool (by simp), (((Below.refl _ _).alloc (Nat.le_refl _) _).alloc (by go_size) _).trans (hb1.mono (by go_size))⟩
  · cases ho2 : okF b bl bh
    · go_enter Try.func123, Try.ntmps123
      go_wp2_with fail
      refine (ok_impl _ _ _ _ ).mono ?_
      rintro e w1 ⟨rfl, hb1⟩
      have hz1 : w.heap.size + 2 ≤ w1.heap.size := by have := hb1.size; first | omega | (simp at this; omega)
      obtain ⟨p1x0, q1x0, r1x0, f1x0, g1x0, h1x0⟩ := cell3 hb1 (w.heap.size) (by go_size)
      obtain ⟨p1x1, q1x1, r1x1, f1x1, g1x1, h1x1⟩ := cell3 hb1 (w.heap.size + 1) (by go_size)
      simp only [ho1]
      go_wp2_with fail
      refine (ok_impl _ _ _ _ ).mono ?_
      rintro e w2 ⟨rfl, hb2⟩
      have hz2 : w.heap.size + 2 ≤ w2.heap.size := by have := hb2.size; first | omega | (simp at this; omega)
      obtain ⟨p2x0, q2x0, r2x0, f2x0, g2x0, h2x0⟩ := cell3 hb2 (w.heap.size) (by go_size)
      obtain ⟨p2x1, q2x1, r2x1, f2x1, g2x1, h2x1⟩ := cell3 hb2 (w.heap.size + 1) (by go_size)
      simp only [ho2]
      go_wp2
      go_ret
      exact ⟨ret_bool (by simp), ((((Below.refl _ _).alloc (Nat.le_refl _) _).alloc (by go_size) _).trans (hb1.mono (by go_size))).trans (hb2.mono (by go_size))⟩
    · cases a
      · go_enter Try.func123, Try.ntmps123
        go_wp2_with fail
        refine (ok_impl _ _ _ _ ).mono ?_
        rintro e w1 ⟨rfl, hb1⟩
        have hz1 : w.heap.size + 2 ≤ w1.heap.size := by have := hb1.size; first | omega | (simp at this; omega)
        obtain ⟨p1x0, q1x0, r1x0, f1x0, g1x0, h1x0⟩ := cell3 hb1 (w.heap.size) (by go_size)
        obtain ⟨p1x1, q1x1, r1x1, f1x1, g1x1, h1x1⟩ := cell3 hb1 (w.heap.size + 1) (by go_size)
        simp only [ho1]
        go_wp2_with fail
        refine (ok_impl _ _ _ _ ).mono ?_
        rintro e w2 ⟨rfl, hb2⟩
        have hz2 : w.heap.size + 2 ≤ w2.heap.size := by have := hb2.size; first | omega | (simp at this; omega)
        obtain ⟨p2x0, q2x0, r2x0, f2x0, g2x0, h2x0⟩ := cell3 hb2 (w.heap.size) (by go_size)
        obtain ⟨p2x1, q2x1, r2x1, f2x1, g2x1, h2x1⟩ := cell3 hb2 (w.heap.size + 1) (by go_size)
        simp only [ho2]
        go_wp2
        go_ret
        exact ⟨ret_bool (by simp), ((((Below.refl _ _).alloc (Nat.le_refl _) _).alloc (by go_size) _).trans (hb1.mono (by go_size))).trans (hb2.mono (by go_size))⟩
      · cases b
        · go_enter Try.func123, Try.ntmps123
          go_wp2_with fail
          refine (ok_impl _ _ _ _ ).mono ?_
          rintro e w1 ⟨rfl, hb1⟩
          have hz1 : w.heap.size + 2 ≤ w1.heap.size := by have := hb1.size; first | omega | (simp at this; omega)
          obtain ⟨p1x0, q1x0, r1x0, f1x0, g1x0, h1x0⟩ := cell3 hb1 (w.heap.size) (by go_size)
          obtain ⟨p1x1, q1x1, r1x1, f1x1, g1x1, h1x1⟩ := cell3 hb1 (w.heap.size + 1) (by go_size)
          simp only [ho1]
          go_wp2_with fail
          refine (ok_impl _ _ _ _ ).mono ?_
          rintro e w2 ⟨rfl, hb2⟩
          have hz2 : w.heap.size + 2 ≤ w2.heap.size := by have := hb2.size; first | omega | (simp at this; omega)
          obtain ⟨p2x0, q2x0, r2x0, f2x0, g2x0, h2x0⟩ := cell3 hb2 (w.heap.size) (by go_size)
          obtain ⟨p2x1, q2x1, r2x1, f2x1, g2x1, h2x1⟩ := cell3 hb2 (w.heap.size + 1) (by go_size)
          simp only [ho2]
          go_wp2
          go_ret
          exact ⟨ret_bool (by simp), ((((Below.refl _ _).alloc (Nat.le_refl _) _).alloc (by go_size) _).trans (hb1.mono (by go_size))).trans (hb2.mono (by go_size))⟩
        · by_cases h1 : bl ≤ al
          · go_enter Try.func123, Try.ntmps123
            go_wp2_with fail
            refine (ok_impl _ _ _ _ ).mono ?_
            rintro e w1 ⟨rfl, hb1⟩
            have hz1 : w.heap.size + 2 ≤ w1.heap.size := by have := hb1.size; first | omega | (simp at this; omega)
            obtain ⟨p1x0, q1x0, r1x0, f1x0, g1x0, h1x0⟩ := cell3 hb1 (w.heap.size) (by go_size)
            obtain ⟨p1x1, q1x1, r1x1, f1x1, g1x1, h1x1⟩ := cell3 hb1 (w.heap.size + 1) (by go_size)
            simp only [ho1]
            go_wp2_with fail
            refine (ok_impl _ _ _ _ ).mono ?_
            rintro e w2 ⟨rfl, hb2⟩
            have hz2 : w.heap.size + 2 ≤ w2.heap.size := by have := hb2.size; first | omega | (simp at this; omega)
            obtain ⟨p2x0, q2x0, r2x0, f2x0, g2x0, h2x0⟩ := cell3 hb2 (w.heap.size) (by go_size)
            obtain ⟨p2x1, q2x1, r2x1, f2x1, g2x1, h2x1⟩ := cell3 hb2 (w.heap.size + 1) (by go_size)
            simp only [ho2]
            go_wp2
            go_ret
            exact ⟨ret_bool (by simp [h1]), ((((Below.refl _ _).alloc (Nat.le_refl _) _).alloc (by go_size) _).trans (hb1.mono (by go_size))).trans (hb2.mono (by go_size))⟩
          · go_enter Try.func123, Try.ntmps123
            go_wp2_with fail
            refine (ok_impl _ _ _ _ ).mono ?_
            rintro e w1 ⟨rfl, hb1⟩
            have hz1 : w.heap.size + 2 ≤ w1.heap.size := by have := hb1.size; first | omega | (simp at this; omega)
            obtain ⟨p1x0, q1x0, r1x0, f1x0, g1x0, h1x0⟩ := cell3 hb1 (w.heap.size) (by go_size)
            obtain ⟨p1x1, q1x1, r1x1, f1x1, g1x1, h1x1⟩ := cell3 hb1 (w.heap.size + 1) (by go_size)
            simp only [ho1]
            go_wp2_with fail
            refine (ok_impl _ _ _ _ ).mono ?_
            rintro e w2 ⟨rfl, hb2⟩
            have hz2 : w.heap.size + 2 ≤ w2.heap.size := by have := hb2.size; first | omega | (simp at this; omega)
            obtain ⟨p2x0, q2x0, r2x0, f2x0, g2x0, h2x0⟩ := cell3 hb2 (w.heap.size) (by go_size)
            obtain ⟨p2x1, q2x1, r2x1, f2x1, g2x1, h2x1⟩ := cell3 hb2 (w.heap.size + 1) (by go_size)
            simp only [ho2]
            go_wp2
            go_ret
            exact ⟨ret_bool (by simp; omega), ((((Below.refl _ _).alloc (Nat.le_refl _) _).alloc (by go_size) _).trans (hb1.mono (by go_size))).trans (hb2.mono (by go_size))⟩

set_option maxHeartbeats 600000 in
theorem both_impl (a : Bool) (al ah : Int) (b : Bool) (bl bh : Int) (w : World) : Calls Try.prog 137 #[.agg #[.bool a, .int .i64 al, .int .i64 ah], .agg #[.bool b, .int .i64 bl, .int .i64 bh]] w fun e w' => e = .returned (.bool (bothF a al ah b bl bh)) ∧ Below w.heap.size w w' := by
  unfold bothF
  cases ho1 : okF a al ah
  · go_enter Try.func137, Try.ntmps137
    go_wp2_with fail
    refine (ok_impl _ _ _ _ ).mono ?_
    rintro e w1 ⟨rfl, hb1⟩
    have hz1 : w.heap.size + 2 ≤ w1.heap.size := by have := hb1.size; first | omega | (simp at this; omega)
    obtain ⟨p1x0, q1x0, r1x0, f1x0, g1x0, h1x0⟩ := cell3 hb1 (w.heap.size) (by go_size)
    obtain ⟨p1x1, q1x1, r1x1, f1x1, g1x1, h1x1⟩ := cell3 hb1 (w.heap.size + 1) (by go_size)
    simp only [ho1]
    go_wp2
    go_ret
    exact ⟨ret_bool (by simp), (((Below.refl _ _).alloc (Nat.le_refl _) _).alloc (by go_size) _).trans (hb1.mono (by go_size))⟩
  · cases ho2 : okF b bl bh
    · go_enter Try.func137, Try.ntmps137
      go_wp2_with fail
      refine (ok_impl _ _ _ _ ).mono ?_
      rintro e w1 ⟨rfl, hb1⟩
      have hz1 : w.heap.size + 2 ≤ w1.heap.size := by have := hb1.size; first | omega | (simp at this; omega)
      obtain ⟨p1x0, q1x0, r1x0, f1x0, g1x0, h1x0⟩ := cell3 hb1 (w.heap.size) (by go_size)
      obtain ⟨p1x1, q1x1, r1x1, f1x1, g1x1, h1x1⟩ := cell3 hb1 (w.heap.size + 1) (by go_size)
      simp only [ho1]
      go_wp2_with fail
      refine (ok_impl _ _ _ _ ).mono ?_
      rintro e w2 ⟨rfl, hb2⟩
      have hz2 : w.heap.size + 2 ≤ w2.heap.size := by have := hb2.size; first | omega | (simp at this; omega)
      obtain ⟨p2x0, q2x0, r2x0, f2x0, g2x0, h2x0⟩ := cell3 hb2 (w.heap.size) (by go_size)
      obtain ⟨p2x1, q2x1, r2x1, f2x1, g2x1, h2x1⟩ := cell3 hb2 (w.heap.size + 1) (by go_size)
      simp only [ho2]
      go_wp2
      go_ret
      exact ⟨ret_bool (by simp), ((((Below.refl _ _).alloc (Nat.le_refl _) _).alloc (by go_size) _).trans (hb1.mono (by go_size))).trans (hb2.mono (by go_size))⟩
    · cases a
      · go_enter Try.func137, Try.ntmps137
        go_wp2_with fail
        refine (ok_impl _ _ _ _ ).mono ?_
        rintro e w1 ⟨rfl, hb1⟩
        have hz1 : w.heap.size + 2 ≤ w1.heap.size := by have := hb1.size; first | omega | (simp at this; omega)
        obtain ⟨p1x0, q1x0, r1x0, f1x0, g1x0, h1x0⟩ := cell3 hb1 (w.heap.size) (by go_size)
        obtain ⟨p1x1, q1x1, r1x1, f1x1, g1x1, h1x1⟩ := cell3 hb1 (w.heap.size + 1) (by go_size)
        simp only [ho1]
        go_wp2_with fail
        refine (ok_impl _ _ _ _ ).mono ?_
        rintro e w2 ⟨rfl, hb2⟩
        have hz2 : w.heap.size + 2 ≤ w2.heap.size := by have := hb2.size; first | omega | (simp at this; omega)
        obtain ⟨p2x0, q2x0, r2x0, f2x0, g2x0, h2x0⟩ := cell3 hb2 (w.heap.size) (by go_size)
        obtain ⟨p2x1, q2x1, r2x1, f2x1, g2x1, h2x1⟩ := cell3 hb2 (w.heap.size + 1) (by go_size)
        simp only [ho2]
        go_wp2
        go_ret
        exact ⟨ret_bool (by simp), ((((Below.refl _ _).alloc (Nat.le_refl _) _).alloc (by go_size) _).trans (hb1.mono (by go_size))).trans (hb2.mono (by go_size))⟩
      · go_enter Try.func137, Try.ntmps137
        go_wp2_with fail
        refine (ok_impl _ _ _ _ ).mono ?_
        rintro e w1 ⟨rfl, hb1⟩
        have hz1 : w.heap.size + 2 ≤ w1.heap.size := by have := hb1.size; first | omega | (simp at this; omega)
        obtain ⟨p1x0, q1x0, r1x0, f1x0, g1x0, h1x0⟩ := cell3 hb1 (w.heap.size) (by go_size)
        obtain ⟨p1x1, q1x1, r1x1, f1x1, g1x1, h1x1⟩ := cell3 hb1 (w.heap.size + 1) (by go_size)
        simp only [ho1]
        go_wp2_with fail
        refine (ok_impl _ _ _ _ ).mono ?_
        rintro e w2 ⟨rfl, hb2⟩
        have hz2 : w.heap.size + 2 ≤ w2.heap.size := by have := hb2.size; first | omega | (simp at this; omega)
        obtain ⟨p2x0, q2x0, r2x0, f2x0, g2x0, h2x0⟩ := cell3 hb2 (w.heap.size) (by go_size)
        obtain ⟨p2x1, q2x1, r2x1, f2x1, g2x1, h2x1⟩ := cell3 hb2 (w.heap.size + 1) (by go_size)
        simp only [ho2]
        go_wp2
        go_ret
        exact ⟨ret_bool (by simp), ((((Below.refl _ _).alloc (Nat.le_refl _) _).alloc (by go_size) _).trans (hb1.mono (by go_size))).trans (hb2.mono (by go_size))⟩

end Go.Proofs.Ytifpijindmdboaa
