/-
  The walk of the law FnExactStateOk.
-/
import Derived.Test.YtbmjjmbimfdkoaaSEq
import Derived.Test.YtbmjjmbimfdkoaaSOk
import Derived.Test.YtbmjjmbimfdkoaaReg
namespace Go.Proofs.Ytbmjjmbimfdkoaa
open Go.RowKit
set_option linter.unusedVariables false
set_option linter.unusedSimpArgs false

/-- two boxes of five cells that stand -/
theorem keepBB {w x y : World} {m n : Nat} {v0 v1 v2 v3 v4 u0 u1 u2 u3 u4 : Value}
    (h : Below w.heap.size w x ∧ m < x.heap.size ∧ n < x.heap.size ∧ x.cell? ⟨m, 0, none⟩ = some v0 ∧ x.cell? ⟨m, 1, none⟩ = some v1 ∧ x.cell? ⟨m, 2, none⟩ = some v2 ∧ x.cell? ⟨m, 3, none⟩ = some v3 ∧ x.cell? ⟨m, 4, none⟩ = some v4 ∧ x.cell? ⟨n, 0, none⟩ = some u0 ∧ x.cell? ⟨n, 1, none⟩ = some u1 ∧ x.cell? ⟨n, 2, none⟩ = some u2 ∧ x.cell? ⟨n, 3, none⟩ = some u3 ∧ x.cell? ⟨n, 4, none⟩ = some u4)
    (hb : Below x.heap.size x y) :
    Below w.heap.size w y ∧ m < y.heap.size ∧ n < y.heap.size ∧ y.cell? ⟨m, 0, none⟩ = some v0 ∧ y.cell? ⟨m, 1, none⟩ = some v1 ∧ y.cell? ⟨m, 2, none⟩ = some v2 ∧ y.cell? ⟨m, 3, none⟩ = some v3 ∧ y.cell? ⟨m, 4, none⟩ = some v4 ∧ y.cell? ⟨n, 0, none⟩ = some u0 ∧ y.cell? ⟨n, 1, none⟩ = some u1 ∧ y.cell? ⟨n, 2, none⟩ = some u2 ∧ y.cell? ⟨n, 3, none⟩ = some u3 ∧ y.cell? ⟨n, 4, none⟩ = some u4 := by
  obtain ⟨h1, h2, h3, c0, c1, c2, c3, c4, d0, d1, d2, d3, d4⟩ := h
  have hz := hb.size
  exact ⟨h1.trans (hb.mono h1.size), by omega, by omega, (hb.cell (p := ⟨m, 0, none⟩) h2).trans c0, (hb.cell (p := ⟨m, 1, none⟩) h2).trans c1, (hb.cell (p := ⟨m, 2, none⟩) h2).trans c2, (hb.cell (p := ⟨m, 3, none⟩) h2).trans c3, (hb.cell (p := ⟨m, 4, none⟩) h2).trans c4, (hb.cell (p := ⟨n, 0, none⟩) h3).trans d0, (hb.cell (p := ⟨n, 1, none⟩) h3).trans d1, (hb.cell (p := ⟨n, 2, none⟩) h3).trans d2, (hb.cell (p := ⟨n, 3, none⟩) h3).trans d3, (hb.cell (p := ⟨n, 4, none⟩) h3).trans d4⟩

set_option maxHeartbeats 4000000 in
theorem exactStateOk_walk (a : Bool) (v : Value) (L : List Sp) (c : Bool) (l u : Int) (w : World) (h : SpsAt false w 0 w.heap.size v L) :
    Calls Try.prog 3 #[.agg #[.bool a, v, .bool c, .int .i64 l, .int .i64 u]] w fun e w' => e = .returned (.bool true) ∧ Below w.heap.size w w' := by
  obtain ⟨p, cap, rfl⟩ := h.shape
  have HM : Hid (L.length ≤ maxLen) := by obtain ⟨_, _, _, hm, _⟩ := h; exact hm
  have H : Hid (SpsAt false w 0 w.heap.size (.slice p L.length cap) L) := h
  clear h
  generalize hL : L.length = n at H HM
  have HL : Hid (L.length = n) := hL
  clear hL
  go_enter Try.func3, Try.ntmps3
  go_wp2_with fail
  refine (szState_any _ _ _ _ _ _ _ _ _ (by omega) (by omega) HM.out).mono ?_
  rintro e w1 ⟨rfl, hb1⟩
  have k1 := (Bx5.new w (.bool a) (.slice p n cap) (.bool c) (.int .i64 l) (.int .i64 u) 26).later hb1
  have hB1 : Below w.heap.size w w1 := ((Below.refl _ _).alloc (Nat.le_refl _) _).trans (hb1.mono (by simp))
  clear hb1
  by_cases hneg : (1048576 : Int) - (n : Int) < 0
  · rw [if_pos hneg]
    obtain ⟨_, a0, a1, a2, a3, a4, _⟩ := k1
    go_wp2_with fail
    go_ret
    exact ⟨rfl, hB1⟩
  rw [if_neg hneg]
  have HN : Hid (L.length ≤ 1048576) := by show L.length ≤ 1048576; rw [HL.out]; omega
  have K1 : Hid (Bx5 w1 w.heap.size (.bool a) (.slice p n cap) (.bool c) (.int .i64 l) (.int .i64 u)) := k1
  obtain ⟨_, a0, a1, a2, a3, a4, _⟩ := k1
  go_wp2_with fail
  refine (toState_any _ false 0 w.heap.size _ _ L _ _ _ (H.out.later hB1) HN.out).mono ?_
  rintro e w2 ⟨v2, rfl, hc2, hb2⟩
  have hB2 := hB1.trans (hb2.mono hB1.size)
  have k2 := K1.out.later hb2
  clear a0 a1 a2 a3 a4 hb2
  go_wp2_with fail
  refine (stOk_spec _ true _ _ _ _ L _ _ _ hc2).mono ?_
  rintro e w3 ⟨rfl, hb3⟩
  have hB3 := hB2.trans (hb3.mono hB2.size)
  have k3 := k2.later hb3
  have K3 : Hid (Bx5 w3 w.heap.size (.bool a) (.slice p n cap) (.bool c) (.int .i64 l) (.int .i64 u)) := k3
  clear hb3 k2 hc2 K1 hB1 hB2
  obtain ⟨_, a0, a1, a2, a3, a4, _⟩ := k3
  go_wp2_with fail
  refine (toState_any _ false 0 w.heap.size _ _ L _ _ _ (H.out.later hB3) HN.out).mono ?_
  rintro e w4 ⟨v4, rfl, hc4, hb4⟩
  have hB4 := hB3.trans (hb4.mono hB3.size)
  have k4 := K3.out.later hb4
  clear a0 a1 a2 a3 a4 hb4
  obtain ⟨p4, cap4, rfl⟩ := hc4.shape
  rw [HL.out] at hc4
  rw [HL.out]
  go_wp2_with fail
  have hba := Below.alloc (Below.refl w4.heap.size w4) (Nat.le_refl _) (.cells #[.bool a, .slice p4 n cap4, .bool c, .int .i64 l, .int .i64 u] 32)
  refine (stOk_impl _ true _ _ _ _ L _ _ _ (hc4.later hba)).mono ?_
  rintro e w5 ⟨rfl, hb5⟩
  have hB5 := (hB4.trans (hba.mono hB4.size)).trans (hb5.mono (by have := hB4.size; simp; omega))
  have k5 := (k4.later hba).later hb5
  have n5 := (Bx5.new w4 (.bool a) (.slice p4 n cap4) (.bool c) (.int .i64 l) (.int .i64 u) 32).later hb5
  have hc5 : Hid (SpsAt true w5 w3.heap.size w4.heap.size (.slice p4 n cap4) L) := (hc4.later hba).later hb5
  have h45 : w.heap.size < w4.heap.size := k4.lt
  clear hb5 hba k4 hc4 K3 hB4 hB3
  have hS : Below w.heap.size w w5 ∧ w.heap.size < w5.heap.size ∧ w4.heap.size < w5.heap.size ∧ w5.cell? ⟨w.heap.size, 0, none⟩ = some (.bool a) ∧ w5.cell? ⟨w.heap.size, 1, none⟩ = some (.slice p n cap) ∧ w5.cell? ⟨w.heap.size, 2, none⟩ = some (.bool c) ∧ w5.cell? ⟨w.heap.size, 3, none⟩ = some (.int .i64 l) ∧ w5.cell? ⟨w.heap.size, 4, none⟩ = some (.int .i64 u) ∧ w5.cell? ⟨w4.heap.size, 0, none⟩ = some (.bool a) ∧ w5.cell? ⟨w4.heap.size, 1, none⟩ = some (.slice p4 n cap4) ∧ w5.cell? ⟨w4.heap.size, 2, none⟩ = some (.bool c) ∧ w5.cell? ⟨w4.heap.size, 3, none⟩ = some (.int .i64 l) ∧ w5.cell? ⟨w4.heap.size, 4, none⟩ = some (.int .i64 u) :=
    ⟨hB5, k5.lt, n5.lt, k5.c0, k5.c1, k5.c2, k5.c3, k5.c4, n5.c0, n5.c1, n5.c2, n5.c3, n5.c4⟩
  clear hB5 k5 n5
  go_wp2_with fail
  go_region_held (fun x => Below w.heap.size w x ∧ w.heap.size < x.heap.size ∧ w4.heap.size < x.heap.size ∧ x.cell? ⟨w.heap.size, 0, none⟩ = some (.bool a) ∧ x.cell? ⟨w.heap.size, 1, none⟩ = some (.slice p n cap) ∧ x.cell? ⟨w.heap.size, 2, none⟩ = some (.bool c) ∧ x.cell? ⟨w.heap.size, 3, none⟩ = some (.int .i64 l) ∧ x.cell? ⟨w.heap.size, 4, none⟩ = some (.int .i64 u) ∧ x.cell? ⟨w4.heap.size, 0, none⟩ = some (.bool a) ∧ x.cell? ⟨w4.heap.size, 1, none⟩ = some (.slice p4 n cap4) ∧ x.cell? ⟨w4.heap.size, 2, none⟩ = some (.bool c) ∧ x.cell? ⟨w4.heap.size, 3, none⟩ = some (.int .i64 l) ∧ x.cell? ⟨w4.heap.size, 4, none⟩ = some (.int .i64 u))
    (first | assumption | exact keepBB (by assumption) (by assumption) | exact keepBB (by assumption) (Below.drew (Below.refl _ _)))
    (first | (go_at_call 17; refine (toState_any _ false 0 w.heap.size _ _ L _ _ _ (H.out.later (by first | exact And.left (by assumption) | exact Below.drew (And.left (by assumption)))) HN.out).mono ?_; rintro e w6 ⟨v6, rfl, hc6, hb6⟩; obtain ⟨p6, cap6, rfl⟩ := hc6.shape) | (go_at_call 19; refine (eqState_same _ true true _ _ _ _ _ _ _ L _ _ _ ((hc5.out.later (Below.drew (Below.refl _ _))).later hb6) hc6).mono ?_; rintro e w7 ⟨rfl, hb7⟩))
  go_wp2_with fail
  go_ret
  rename_i hH
  exact ⟨rfl, hH.1⟩
end Go.Proofs.Ytbmjjmbimfdkoaa
