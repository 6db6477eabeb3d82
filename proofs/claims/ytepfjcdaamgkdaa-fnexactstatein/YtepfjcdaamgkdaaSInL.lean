/-
  The walk of the law FnExactStateIn.
-/
import Derived.Test.YtepfjcdaamgkdaaSIn3
import Derived.Test.YtepfjcdaamgkdaaSOkL
import Derived.Test.YtepfjcdaamgkdaaSRd
namespace Go.Proofs.Ytepfjcdaamgkdaa
open Go.RowKit
set_option linter.unusedVariables false
set_option linter.unusedSimpArgs false

set_option maxHeartbeats 8000000 in
theorem exactStateIn_walk (a : Bool) (v : Value) (L : List Sp) (c : Bool) (l u : Int) (b : Bool) (v' : Value) (M : List Sp) (d : Bool) (l' u' : Int) (w : World) (h : SpsAt false w 0 w.heap.size v L) (h' : SpsAt false w 0 w.heap.size v' M) :
    Calls Try.prog 6 #[.agg #[.bool a, v, .bool c, .int .i64 l, .int .i64 u], .agg #[.bool b, v', .bool d, .int .i64 l', .int .i64 u']] w fun e w' => e = .returned (.bool true) ∧ Below w.heap.size w w' := by
  have HMx : Hid (L.length ≤ maxLen) := by obtain ⟨_, _, _, hm, _⟩ := h; exact hm
  have HMx' : Hid (M.length ≤ maxLen) := by obtain ⟨_, _, _, hm, _⟩ := h'; exact hm
  obtain ⟨p, cap, hv⟩ := h.shape
  obtain ⟨p', cap', hv'⟩ := h'.shape
  generalize hL : L.length = n at hv HMx
  generalize hM : M.length = m at hv' HMx'
  have HL : Hid (L.length = n) := hL
  have HM : Hid (M.length = m) := hM
  clear hL hM
  subst hv hv'
  have hB := Below.refl w.heap.size w
  go_enter Try.func6, Try.ntmps6
  go_wp2_with fail
  have hba := ((Below.refl w.heap.size w).alloc (Nat.le_refl _) (.cells #[.bool a, .slice p n cap, .bool c, .int .i64 l, .int .i64 u] 26)).alloc (by simp) (.cells #[.bool b, .slice p' m cap', .bool d, .int .i64 l', .int .i64 u'] 26)
  replace hB := hB.trans hba
  have ba := (Bx5.new w (.bool a) (.slice p n cap) (.bool c) (.int .i64 l) (.int .i64 u) 26).alloc (.cells #[.bool b, .slice p' m cap', .bool d, .int .i64 l', .int .i64 u'] 26)
  have bb := Bx5.new (w.alloc (.cells #[.bool a, .slice p n cap, .bool c, .int .i64 l, .int .i64 u] 26)) (.bool b) (.slice p' m cap') (.bool d) (.int .i64 l') (.int .i64 u') 26
  simp only [World.size_alloc] at bb
  clear hba
  refine (szState_any _ _ _ _ _ _ _ _ _ (by omega) (by omega) HMx.out).mono ?_
  rintro e w1 ⟨rfl, hb⟩
  replace hB := hB.trans (hb.mono hB.size)
  replace ba := ba.later hb
  replace bb := bb.later hb
  clear hb
  obtain ⟨_, ba0, ba1, ba2, ba3, ba4, baf⟩ := id ba
  obtain ⟨_, bb0, bb1, bb2, bb3, bb4, bbf⟩ := id bb
  by_cases hneg : (1048576 : Int) - (n : Int) < 0
  · rw [if_pos hneg]
    go_wp2_with fail
    go_ret
    exact ⟨rfl, hB⟩
  rw [if_neg hneg]
  have HN : Hid (L.length ≤ 1048576) := by show L.length ≤ 1048576; rw [HL.out]; omega
  go_wp2_with fail
  refine (szState_any _ _ _ _ _ _ _ _ _ (by omega) (by omega) HMx'.out).mono ?_
  rintro e w2 ⟨rfl, hb⟩
  clear ba0 ba1 ba2 ba3 ba4 bb0 bb1 bb2 bb3 bb4 baf bbf
  replace hB := hB.trans (hb.mono hB.size)
  replace ba := ba.later hb
  replace bb := bb.later hb
  clear hb
  obtain ⟨_, ba0, ba1, ba2, ba3, ba4, baf⟩ := id ba
  obtain ⟨_, bb0, bb1, bb2, bb3, bb4, bbf⟩ := id bb
  by_cases hneg2 : (1048576 : Int) - (n : Int) - (m : Int) < 0
  · rw [if_pos hneg2]
    go_wp2_with fail
    go_ret
    exact ⟨rfl, hB⟩
  rw [if_neg hneg2]
  have HN' : Hid (M.length ≤ 1048576) := by show M.length ≤ 1048576; rw [HM.out]; omega
  clear ba0 ba1 ba2 ba3 ba4 bb0 bb1 bb2 bb3 bb4 baf bbf
  obtain ⟨ll, hll⟩ : ∃ z : Int, (1048576 : Int) - (n : Int) - (m : Int) = z := ⟨_, rfl⟩
  rw [hll] at hneg2 ⊢
  clear hll
  clear hneg
  have hS : Below w.heap.size w w2 ∧ w.heap.size < w2.heap.size ∧ w.heap.size + 1 < w2.heap.size ∧ w2.cell? ⟨w.heap.size, 0, none⟩ = some (.bool a) ∧ w2.cell? ⟨w.heap.size, 1, none⟩ = some (.slice p n cap) ∧ w2.cell? ⟨w.heap.size, 2, none⟩ = some (.bool c) ∧ w2.cell? ⟨w.heap.size, 3, none⟩ = some (.int .i64 l) ∧ w2.cell? ⟨w.heap.size, 4, none⟩ = some (.int .i64 u) ∧ w2.cell? ⟨w.heap.size + 1, 0, none⟩ = some (.bool b) ∧ w2.cell? ⟨w.heap.size + 1, 1, none⟩ = some (.slice p' m cap') ∧ w2.cell? ⟨w.heap.size + 1, 2, none⟩ = some (.bool d) ∧ w2.cell? ⟨w.heap.size + 1, 3, none⟩ = some (.int .i64 l') ∧ w2.cell? ⟨w.heap.size + 1, 4, none⟩ = some (.int .i64 u') :=
    ⟨hB, ba.lt, bb.lt, ba.c0, ba.c1, ba.c2, ba.c3, ba.c4, bb.c0, bb.c1, bb.c2, bb.c3, bb.c4⟩
  clear hB
  go_wp2_with fail
  go_region_held (fun x => Below w.heap.size w x ∧ w.heap.size < x.heap.size ∧ w.heap.size + 1 < x.heap.size ∧ x.cell? ⟨w.heap.size, 0, none⟩ = some (.bool a) ∧ x.cell? ⟨w.heap.size, 1, none⟩ = some (.slice p n cap) ∧ x.cell? ⟨w.heap.size, 2, none⟩ = some (.bool c) ∧ x.cell? ⟨w.heap.size, 3, none⟩ = some (.int .i64 l) ∧ x.cell? ⟨w.heap.size, 4, none⟩ = some (.int .i64 u) ∧ x.cell? ⟨w.heap.size + 1, 0, none⟩ = some (.bool b) ∧ x.cell? ⟨w.heap.size + 1, 1, none⟩ = some (.slice p' m cap') ∧ x.cell? ⟨w.heap.size + 1, 2, none⟩ = some (.bool d) ∧ x.cell? ⟨w.heap.size + 1, 3, none⟩ = some (.int .i64 l') ∧ x.cell? ⟨w.heap.size + 1, 4, none⟩ = some (.int .i64 u'))
    (first | assumption | exact keepBB (by assumption) (by assumption) | exact keepBB (by assumption) (Below.drew (Below.refl _ _)))
    (first | (go_at_call 17; with_reducible refine (toState_any _ false 0 w.heap.size _ _ L _ _ _ (h.later (by first | exact And.left (by with_reducible assumption) | exact Below.drew (And.left (by with_reducible assumption)))) HN.out).mono ?_; rintro e wa ⟨va, rfl, ha, hba⟩; obtain ⟨pa, capa, rfl⟩ := ha.shape) | (go_at_call 17; with_reducible refine (toState_any _ false 0 w.heap.size _ _ M _ _ _ (h'.later (by first | exact And.left (by with_reducible assumption) | exact Below.drew (And.left (by with_reducible assumption)))) HN'.out).mono ?_; rintro e wb ⟨vb, rfl, hb, hbb⟩; obtain ⟨pb, capb, rfl⟩ := hb.shape) | (go_at_call 28; with_reducible refine (stIn_spec _ true true _ _ _ _ _ _ L _ _ _ _ _ M _ _ _ (ha.later hbb) hb).mono ?_; rintro e wS ⟨rfl, hbS⟩) | (go_at_call 28; with_reducible refine (stIn_spec _ true true _ _ _ _ _ _ L _ _ _ _ _ M _ _ _ ha (hb.later hba)).mono ?_; rintro e wS ⟨rfl, hbS⟩))
  all_goals
    rename_i hH
    have hB : Below w.heap.size w wS := hH.1
    clear ba bb
    have ba : Rd5 wS (w.heap.size) (.bool a) (.slice p n cap) (.bool c) (.int .i64 l) (.int .i64 u) := ⟨hH.2.1, hH.2.2.2.1, hH.2.2.2.2.1, hH.2.2.2.2.2.1, hH.2.2.2.2.2.2.1, hH.2.2.2.2.2.2.2.1⟩
    have bb : Rd5 wS (w.heap.size + 1) (.bool b) (.slice p' m cap') (.bool d) (.int .i64 l') (.int .i64 u') := ⟨hH.2.2.1, hH.2.2.2.2.2.2.2.2.1, hH.2.2.2.2.2.2.2.2.2.1, hH.2.2.2.2.2.2.2.2.2.2.1, hH.2.2.2.2.2.2.2.2.2.2.2.1, hH.2.2.2.2.2.2.2.2.2.2.2.2⟩
    clear hH
    obtain ⟨_, ba0, ba1, ba2, ba3, ba4⟩ := id ba
    obtain ⟨_, bb0, bb1, bb2, bb3, bb4⟩ := id bb
    go_wp2_with fail
    refine (toState_any _ false 0 w.heap.size _ _ L _ _ _ (h.later hB) HN.out).mono ?_
    rintro e w3 ⟨v6, rfl, h6, hb⟩
    clear ba0 ba1 ba2 ba3 ba4 bb0 bb1 bb2 bb3 bb4 
    replace hB := hB.trans (hb.mono hB.size)
    replace ba := ba.later hb
    replace bb := bb.later hb
    clear hb
    obtain ⟨p6, cap6, hv6⟩ := h6.shape
    rw [HL.out] at hv6
    subst hv6
    obtain ⟨_, bb0, bb1, bb2, bb3, bb4⟩ := id bb
    go_wp2_with fail
    have hba := Below.alloc (Below.refl w3.heap.size w3) (Nat.le_refl _) (.cells #[.bool a, .slice p6 n cap6, .bool c, .int .i64 l, .int .i64 u] 32)
    replace hB := hB.trans (hba.mono hB.size)
    replace ba := ba.later hba
    replace bb := bb.later hba
    replace h6 := h6.later hba
    have x0 := Bx5.new w3 (.bool a) (.slice p6 n cap6) (.bool c) (.int .i64 l) (.int .i64 u) 32
    clear hba
    refine (toState_any _ false 0 w.heap.size _ _ M _ _ _ (h'.later hB) HN'.out).mono ?_
    rintro e w4 ⟨v7, rfl, h7, hb⟩
    clear bb0 bb1 bb2 bb3 bb4 
    replace hB := hB.trans (hb.mono hB.size)
    replace ba := ba.later hb
    replace bb := bb.later hb
    replace h6 := h6.later hb
    replace x0 := x0.later hb
    clear hb
    obtain ⟨p7, cap7, hv7⟩ := h7.shape
    rw [HM.out] at hv7
    subst hv7
    obtain ⟨_, x00, x01, x02, x03, x04, x0f⟩ := id x0
    go_wp2_with fail
    have hba := Below.alloc (Below.refl w4.heap.size w4) (Nat.le_refl _) (.cells #[.bool b, .slice p7 m cap7, .bool d, .int .i64 l', .int .i64 u'] 32)
    replace hB := hB.trans (hba.mono hB.size)
    replace ba := ba.later hba
    replace bb := bb.later hba
    replace h6 := h6.later hba
    replace x0 := x0.later hba
    replace h7 := h7.later hba
    have x1 := Bx5.new w4 (.bool b) (.slice p7 m cap7) (.bool d) (.int .i64 l') (.int .i64 u') 32
    clear hba
    refine (stIn_impl _ true true _ _ _ _ _ _ L _ _ _ _ _ M _ _ _ h6 h7).mono ?_
    rintro e w5 ⟨rfl, hb⟩
    clear x00 x01 x02 x03 x04 x0f
    replace hB := hB.trans (hb.mono hB.size)
    replace ba := ba.later hb
    replace bb := bb.later hb
    replace h6 := h6.later hb
    replace x0 := x0.later hb
    replace h7 := h7.later hb
    replace x1 := x1.later hb
    clear hb
    have hS : Below w.heap.size w w5 ∧ w.heap.size < w5.heap.size ∧ w3.heap.size < w5.heap.size ∧ w5.cell? ⟨w.heap.size, 0, none⟩ = some (.bool a) ∧ w5.cell? ⟨w.heap.size, 1, none⟩ = some (.slice p n cap) ∧ w5.cell? ⟨w.heap.size, 2, none⟩ = some (.bool c) ∧ w5.cell? ⟨w.heap.size, 3, none⟩ = some (.int .i64 l) ∧ w5.cell? ⟨w.heap.size, 4, none⟩ = some (.int .i64 u) ∧ w5.cell? ⟨w3.heap.size, 0, none⟩ = some (.bool a) ∧ w5.cell? ⟨w3.heap.size, 1, none⟩ = some (.slice p6 n cap6) ∧ w5.cell? ⟨w3.heap.size, 2, none⟩ = some (.bool c) ∧ w5.cell? ⟨w3.heap.size, 3, none⟩ = some (.int .i64 l) ∧ w5.cell? ⟨w3.heap.size, 4, none⟩ = some (.int .i64 u) :=
      ⟨hB, ba.lt, x0.lt, ba.c0, ba.c1, ba.c2, ba.c3, ba.c4, x0.c0, x0.c1, x0.c2, x0.c3, x0.c4⟩
    clear hB
    go_wp2_with fail
    go_region_held (fun x => Below w.heap.size w x ∧ w.heap.size < x.heap.size ∧ w3.heap.size < x.heap.size ∧ x.cell? ⟨w.heap.size, 0, none⟩ = some (.bool a) ∧ x.cell? ⟨w.heap.size, 1, none⟩ = some (.slice p n cap) ∧ x.cell? ⟨w.heap.size, 2, none⟩ = some (.bool c) ∧ x.cell? ⟨w.heap.size, 3, none⟩ = some (.int .i64 l) ∧ x.cell? ⟨w.heap.size, 4, none⟩ = some (.int .i64 u) ∧ x.cell? ⟨w3.heap.size, 0, none⟩ = some (.bool a) ∧ x.cell? ⟨w3.heap.size, 1, none⟩ = some (.slice p6 n cap6) ∧ x.cell? ⟨w3.heap.size, 2, none⟩ = some (.bool c) ∧ x.cell? ⟨w3.heap.size, 3, none⟩ = some (.int .i64 l) ∧ x.cell? ⟨w3.heap.size, 4, none⟩ = some (.int .i64 u))
      (first | assumption | exact keepBB (by assumption) (by assumption) | exact keepBB (by assumption) (Below.drew (Below.refl _ _)))
      (first | (go_at_call 17; with_reducible refine (toState_any _ false 0 w.heap.size _ _ L _ _ _ (h.later (by first | exact And.left (by with_reducible assumption) | exact Below.drew (And.left (by with_reducible assumption)))) HN.out).mono ?_; rintro e waA ⟨v9, rfl, h9, hbaA⟩; obtain ⟨p9, cap9, rfl⟩ := h9.shape) | (go_at_call 19; refine (eqState_same _ true true _ _ _ _ _ _ _ L _ _ _ ((h6.later (Below.drew (Below.refl _ _))).later hbaA) h9).mono ?_; rintro e wbA ⟨rfl, hbbA⟩))
    rename_i hH
    have hB : Below w.heap.size w wbA := hH.1
    replace ba := ((ba.later (Below.drew (Below.refl _ _))).later hbaA).later hbbA
    replace bb := ((bb.later (Below.drew (Below.refl _ _))).later hbaA).later hbbA
    replace h6 := ((h6.later (Below.drew (Below.refl _ _))).later hbaA).later hbbA
    replace x0 := ((x0.later (Below.drew (Below.refl _ _))).later hbaA).later hbbA
    replace h7 := ((h7.later (Below.drew (Below.refl _ _))).later hbaA).later hbbA
    replace x1 := ((x1.later (Below.drew (Below.refl _ _))).later hbaA).later hbbA
    clear hH hS h9 hbaA hbbA
    have hS : Below w.heap.size w wbA ∧ w.heap.size + 1 < wbA.heap.size ∧ w4.heap.size < wbA.heap.size ∧ wbA.cell? ⟨w.heap.size + 1, 0, none⟩ = some (.bool b) ∧ wbA.cell? ⟨w.heap.size + 1, 1, none⟩ = some (.slice p' m cap') ∧ wbA.cell? ⟨w.heap.size + 1, 2, none⟩ = some (.bool d) ∧ wbA.cell? ⟨w.heap.size + 1, 3, none⟩ = some (.int .i64 l') ∧ wbA.cell? ⟨w.heap.size + 1, 4, none⟩ = some (.int .i64 u') ∧ wbA.cell? ⟨w4.heap.size, 0, none⟩ = some (.bool b) ∧ wbA.cell? ⟨w4.heap.size, 1, none⟩ = some (.slice p7 m cap7) ∧ wbA.cell? ⟨w4.heap.size, 2, none⟩ = some (.bool d) ∧ wbA.cell? ⟨w4.heap.size, 3, none⟩ = some (.int .i64 l') ∧ wbA.cell? ⟨w4.heap.size, 4, none⟩ = some (.int .i64 u') :=
      ⟨hB, bb.lt, x1.lt, bb.c0, bb.c1, bb.c2, bb.c3, bb.c4, x1.c0, x1.c1, x1.c2, x1.c3, x1.c4⟩
    clear hB
    go_wp2_with fail
    go_region_held (fun x => Below w.heap.size w x ∧ w.heap.size + 1 < x.heap.size ∧ w4.heap.size < x.heap.size ∧ x.cell? ⟨w.heap.size + 1, 0, none⟩ = some (.bool b) ∧ x.cell? ⟨w.heap.size + 1, 1, none⟩ = some (.slice p' m cap') ∧ x.cell? ⟨w.heap.size + 1, 2, none⟩ = some (.bool d) ∧ x.cell? ⟨w.heap.size + 1, 3, none⟩ = some (.int .i64 l') ∧ x.cell? ⟨w.heap.size + 1, 4, none⟩ = some (.int .i64 u') ∧ x.cell? ⟨w4.heap.size, 0, none⟩ = some (.bool b) ∧ x.cell? ⟨w4.heap.size, 1, none⟩ = some (.slice p7 m cap7) ∧ x.cell? ⟨w4.heap.size, 2, none⟩ = some (.bool d) ∧ x.cell? ⟨w4.heap.size, 3, none⟩ = some (.int .i64 l') ∧ x.cell? ⟨w4.heap.size, 4, none⟩ = some (.int .i64 u'))
      (first | assumption | exact keepBB (by assumption) (by assumption) | exact keepBB (by assumption) (Below.drew (Below.refl _ _)))
      (first | (go_at_call 17; with_reducible refine (toState_any _ false 0 w.heap.size _ _ M _ _ _ (h'.later (by first | exact And.left (by with_reducible assumption) | exact Below.drew (And.left (by with_reducible assumption)))) HN'.out).mono ?_; rintro e waB ⟨v9, rfl, h9, hbaB⟩; obtain ⟨p9, cap9, rfl⟩ := h9.shape) | (go_at_call 19; refine (eqState_same _ true true _ _ _ _ _ _ _ M _ _ _ ((h7.later (Below.drew (Below.refl _ _))).later hbaB) h9).mono ?_; rintro e wbB ⟨rfl, hbbB⟩))
    rename_i hH
    have hB : Below w.heap.size w wbB := hH.1
    replace ba := ((ba.later (Below.drew (Below.refl _ _))).later hbaB).later hbbB
    replace bb := ((bb.later (Below.drew (Below.refl _ _))).later hbaB).later hbbB
    replace h6 := ((h6.later (Below.drew (Below.refl _ _))).later hbaB).later hbbB
    replace x0 := ((x0.later (Below.drew (Below.refl _ _))).later hbaB).later hbbB
    replace h7 := ((h7.later (Below.drew (Below.refl _ _))).later hbaB).later hbbB
    replace x1 := ((x1.later (Below.drew (Below.refl _ _))).later hbaB).later hbbB
    clear hH hS h9 hbaB hbbB
    go_wp2_with fail
    go_ret
    exact ⟨rfl, hB⟩
end Go.Proofs.Ytepfjcdaamgkdaa
