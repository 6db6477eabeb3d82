/-
  The walk of the law FnExactStateHas.
-/
import Derived.Test.YtepfjcdaamgkdaaSHas
import Derived.Test.YtepfjcdaamgkdaaSOkL
namespace Go.Proofs.Ytepfjcdaamgkdaa
open Go.RowKit
set_option linter.unusedVariables false
set_option linter.unusedSimpArgs false

set_option maxHeartbeats 4000000 in
theorem exactStateHas_walk (a : Bool) (v : Value) (L : List Sp) (c : Bool) (l u : Int) (v1 : Value) (R : List Int) (v2 : Value) (C : List Int) (w : World) (h : SpsAt false w 0 w.heap.size v L) (hR : IntsAt false w 0 w.heap.size v1 R) (hC : IntsAt false w 0 w.heap.size v2 C) :
    Calls Try.prog 5 #[.agg #[.bool a, v, .bool c, .int .i64 l, .int .i64 u], v1, v2] w fun e w' => e = .returned (.bool true) ∧ Below w.heap.size w w' := by
  have HM : Hid (L.length ≤ maxLen) := by obtain ⟨_, _, _, hm, _⟩ := h; exact hm
  obtain ⟨p, cap, hv⟩ := h.shape
  generalize hL : L.length = n at HM hv
  have HL : Hid (L.length = n) := hL
  clear hL
  subst hv
  obtain ⟨p1, cap1, hv1⟩ := hR.shape
  obtain ⟨p2, cap2, hv2⟩ := hC.shape
  generalize hR' : R.length = r at hv1
  have HR : Hid (R.length = r) := hR'
  clear hR'
  generalize hC' : C.length = q at hv2
  have HC : Hid (C.length = q) := hC'
  clear hC'
  subst hv1 hv2
  have hB := Below.refl w.heap.size w
  by_cases hr : (1048576 : Int) < (r : Int)
  · go_enter Try.func5, Try.ntmps5
    go_wp2_with fail
    go_ret
    exact ⟨rfl, by go_grown⟩
  by_cases hq : (1048576 : Int) < (q : Int)
  · go_enter Try.func5, Try.ntmps5
    go_wp2_with fail
    go_ret
    exact ⟨rfl, by go_grown⟩
  have HRN : Hid (R.length ≤ 1048576) := by show R.length ≤ 1048576; rw [HR.out]; omega
  have HCN : Hid (C.length ≤ 1048576) := by show C.length ≤ 1048576; rw [HC.out]; omega
  go_enter Try.func5, Try.ntmps5
  go_wp2_with fail
  have hba := Below.alloc (Below.refl w.heap.size w) (Nat.le_refl _) (.cells #[.bool a, .slice p n cap, .bool c, .int .i64 l, .int .i64 u] 26)
  replace hB := hB.trans (hba.mono hB.size)
  replace h := h.later hba
  replace hR := hR.later hba
  replace hC := hC.later hba
  have b := Bx5.new w (.bool a) (.slice p n cap) (.bool c) (.int .i64 l) (.int .i64 u) 26
  clear hba
  refine (szState_any _ _ _ _ _ _ _ _ _ (by omega) (by omega) HM.out).mono ?_
  rintro e w1 ⟨rfl, hb⟩
  replace hB := hB.trans (hb.mono hB.size)
  replace h := h.later hb
  replace hR := hR.later hb
  replace hC := hC.later hb
  replace b := b.later hb
  clear hb
  obtain ⟨_, b0, b1, b2, b3, b4, bf⟩ := id b
  by_cases hneg : (1048576 : Int) - (n : Int) < 0
  · rw [if_pos hneg]
    go_wp2_with fail
    go_ret
    exact ⟨rfl, hB⟩
  rw [if_neg hneg]
  have HN : Hid (L.length ≤ 1048576) := by show L.length ≤ 1048576; rw [HL.out]; omega
  go_wp2_with fail
  refine (toState_any _ false 0 w.heap.size _ _ L _ _ _ h HN.out).mono ?_
  rintro e w2 ⟨v3, rfl, h3, hb⟩
  clear b0 b1 b2 b3 b4 bf
  replace hB := hB.trans (hb.mono hB.size)
  replace h := h.later hb
  replace hR := hR.later hb
  replace hC := hC.later hb
  replace b := b.later hb
  clear hb
  go_wp2_with fail
  refine (toIntS_any _ false 0 w.heap.size _ R hR HRN.out).mono ?_
  rintro e w3 ⟨v4, rfl, h4, hb⟩
  replace hB := hB.trans (hb.mono hB.size)
  replace h := h.later hb
  replace hR := hR.later hb
  replace hC := hC.later hb
  replace b := b.later hb
  replace h3 := h3.later hb
  clear hb
  go_wp2_with fail
  refine (toIntS_any _ false 0 w.heap.size _ C hC HCN.out).mono ?_
  rintro e w4 ⟨v5, rfl, h5, hb⟩
  replace hB := hB.trans (hb.mono hB.size)
  replace h := h.later hb
  replace hR := hR.later hb
  replace hC := hC.later hb
  replace b := b.later hb
  replace h3 := h3.later hb
  replace h4 := h4.later hb
  clear hb
  go_wp2_with fail
  refine (stHas_spec _ _ _ _ _ _ _ _ _ _ _ _ _ _ L _ _ _ R C h3 h4 h5).mono ?_
  rintro e w5 ⟨rfl, hb⟩
  replace hB := hB.trans (hb.mono hB.size)
  replace h := h.later hb
  replace hR := hR.later hb
  replace hC := hC.later hb
  replace b := b.later hb
  replace h3 := h3.later hb
  replace h4 := h4.later hb
  replace h5 := h5.later hb
  clear hb
  clear h3 h4 h5
  obtain ⟨_, b0, b1, b2, b3, b4, bf⟩ := id b
  go_wp2_with fail
  refine (toState_any _ false 0 w.heap.size _ _ L _ _ _ h HN.out).mono ?_
  rintro e w6 ⟨v6, rfl, h6, hb⟩
  clear b0 b1 b2 b3 b4 bf
  replace hB := hB.trans (hb.mono hB.size)
  replace h := h.later hb
  replace hR := hR.later hb
  replace hC := hC.later hb
  replace b := b.later hb
  clear hb
  obtain ⟨p6, cap6, hv6⟩ := h6.shape
  rw [HL.out] at hv6
  subst hv6
  go_wp2_with fail
  have hba := Below.alloc (Below.refl w6.heap.size w6) (Nat.le_refl _) (.cells #[.bool a, .slice p6 n cap6, .bool c, .int .i64 l, .int .i64 u] 32)
  replace hB := hB.trans (hba.mono hB.size)
  replace h := h.later hba
  replace hR := hR.later hba
  replace hC := hC.later hba
  replace b := b.later hba
  replace h6 := h6.later hba
  have d := Bx5.new w6 (.bool a) (.slice p6 n cap6) (.bool c) (.int .i64 l) (.int .i64 u) 32
  clear hba
  refine (toIntS_any _ false 0 w.heap.size _ R hR HRN.out).mono ?_
  rintro e w7 ⟨v7, rfl, h7, hb⟩
  replace hB := hB.trans (hb.mono hB.size)
  replace h := h.later hb
  replace hR := hR.later hb
  replace hC := hC.later hb
  replace b := b.later hb
  replace h6 := h6.later hb
  replace d := d.later hb
  clear hb
  obtain ⟨p7, cap7, hv7⟩ := h7.shape
  rw [HR.out] at hv7
  subst hv7
  go_wp2_with fail
  refine (toIntS_any _ false 0 w.heap.size _ C hC HCN.out).mono ?_
  rintro e w8 ⟨v8, rfl, h8, hb⟩
  replace hB := hB.trans (hb.mono hB.size)
  replace h := h.later hb
  replace hR := hR.later hb
  replace hC := hC.later hb
  replace b := b.later hb
  replace h6 := h6.later hb
  replace d := d.later hb
  replace h7 := h7.later hb
  clear hb
  obtain ⟨p8, cap8, hv8⟩ := h8.shape
  rw [HC.out] at hv8
  subst hv8
  obtain ⟨_, d0, d1, d2, d3, d4, df⟩ := id d
  go_wp2_with fail
  refine (stHas_impl _ _ _ _ _ _ _ _ _ _ _ _ _ _ L _ _ _ R C h6 h7 h8).mono ?_
  rintro e w9 ⟨rfl, hb⟩
  clear d0 d1 d2 d3 d4 df
  replace hB := hB.trans (hb.mono hB.size)
  replace h := h.later hb
  replace hR := hR.later hb
  replace hC := hC.later hb
  replace b := b.later hb
  replace h6 := h6.later hb
  replace d := d.later hb
  replace h7 := h7.later hb
  replace h8 := h8.later hb
  clear hb
  have hS : Below w.heap.size w w9 ∧ w.heap.size < w9.heap.size ∧ w6.heap.size < w9.heap.size ∧ w9.cell? ⟨w.heap.size, 0, none⟩ = some (.bool a) ∧ w9.cell? ⟨w.heap.size, 1, none⟩ = some (.slice p n cap) ∧ w9.cell? ⟨w.heap.size, 2, none⟩ = some (.bool c) ∧ w9.cell? ⟨w.heap.size, 3, none⟩ = some (.int .i64 l) ∧ w9.cell? ⟨w.heap.size, 4, none⟩ = some (.int .i64 u) ∧ w9.cell? ⟨w6.heap.size, 0, none⟩ = some (.bool a) ∧ w9.cell? ⟨w6.heap.size, 1, none⟩ = some (.slice p6 n cap6) ∧ w9.cell? ⟨w6.heap.size, 2, none⟩ = some (.bool c) ∧ w9.cell? ⟨w6.heap.size, 3, none⟩ = some (.int .i64 l) ∧ w9.cell? ⟨w6.heap.size, 4, none⟩ = some (.int .i64 u) :=
    ⟨hB, b.lt, d.lt, b.c0, b.c1, b.c2, b.c3, b.c4, d.c0, d.c1, d.c2, d.c3, d.c4⟩
  clear hB b d
  go_wp2_with fail
  go_region_held (fun x => Below w.heap.size w x ∧ w.heap.size < x.heap.size ∧ w6.heap.size < x.heap.size ∧ x.cell? ⟨w.heap.size, 0, none⟩ = some (.bool a) ∧ x.cell? ⟨w.heap.size, 1, none⟩ = some (.slice p n cap) ∧ x.cell? ⟨w.heap.size, 2, none⟩ = some (.bool c) ∧ x.cell? ⟨w.heap.size, 3, none⟩ = some (.int .i64 l) ∧ x.cell? ⟨w.heap.size, 4, none⟩ = some (.int .i64 u) ∧ x.cell? ⟨w6.heap.size, 0, none⟩ = some (.bool a) ∧ x.cell? ⟨w6.heap.size, 1, none⟩ = some (.slice p6 n cap6) ∧ x.cell? ⟨w6.heap.size, 2, none⟩ = some (.bool c) ∧ x.cell? ⟨w6.heap.size, 3, none⟩ = some (.int .i64 l) ∧ x.cell? ⟨w6.heap.size, 4, none⟩ = some (.int .i64 u))
    (first | assumption | exact keepBB (by assumption) (by assumption) | exact keepBB (by assumption) (Below.drew (Below.refl _ _)))
    (first | (go_at_call 17; refine (toState_any _ false 0 w.heap.size _ _ L _ _ _ (h.later (Below.drew (Below.refl _ _))) HN.out).mono ?_; rintro e wa ⟨v9, rfl, h9, hba⟩; obtain ⟨p9, cap9, rfl⟩ := h9.shape) | (go_at_call 19; refine (eqState_same _ true true _ _ _ _ _ _ _ L _ _ _ ((h6.later (Below.drew (Below.refl _ _))).later hba) h9).mono ?_; rintro e wb ⟨rfl, hbb⟩))
  have hB : Below w.heap.size w wb := And.left (by assumption)
  replace hR := ((hR.later (Below.drew (Below.refl _ _))).later hba).later hbb
  replace hC := ((hC.later (Below.drew (Below.refl _ _))).later hba).later hbb
  replace h7 := ((h7.later (Below.drew (Below.refl _ _))).later hba).later hbb
  replace h8 := ((h8.later (Below.drew (Below.refl _ _))).later hba).later hbb
  clear h h6 h9 hS hba hbb
  go_wp2_with fail
  refine (toIntS_any _ false 0 w.heap.size _ R hR HRN.out).mono ?_
  rintro e w10 ⟨va, rfl, ha, hb⟩
  replace hB := hB.trans (hb.mono hB.size)
  replace hR := hR.later hb
  replace hC := hC.later hb
  replace h7 := h7.later hb
  replace h8 := h8.later hb
  clear hb
  go_wp2_with fail
  refine (eqIntS_same _ _ _ _ _ _ _ _ _ R h7 ha).mono ?_
  rintro e w11 ⟨rfl, hb⟩
  replace hB := hB.trans (hb.mono hB.size)
  replace hR := hR.later hb
  replace hC := hC.later hb
  replace h7 := h7.later hb
  replace h8 := h8.later hb
  replace ha := ha.later hb
  clear hb
  clear ha
  go_wp2_with fail
  refine (toIntS_any _ false 0 w.heap.size _ C hC HCN.out).mono ?_
  rintro e w12 ⟨vb, rfl, hc, hb⟩
  replace hB := hB.trans (hb.mono hB.size)
  replace hR := hR.later hb
  replace hC := hC.later hb
  replace h7 := h7.later hb
  replace h8 := h8.later hb
  clear hb
  go_wp2_with fail
  refine (eqIntS_same _ _ _ _ _ _ _ _ _ C h8 hc).mono ?_
  rintro e w13 ⟨rfl, hb⟩
  replace hB := hB.trans (hb.mono hB.size)
  replace hR := hR.later hb
  replace hC := hC.later hb
  replace h7 := h7.later hb
  replace h8 := h8.later hb
  replace hc := hc.later hb
  clear hb
  go_wp2_with fail
  go_ret
  exact ⟨rfl, hB⟩
end Go.Proofs.Ytepfjcdaamgkdaa
