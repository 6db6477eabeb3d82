/-
  The walk of the law FnDoRing.
-/
import Derived.Test.YtkdlfojjfionkaaWrapL
namespace Go.Proofs.Ytkdlfojjfionkaa
open Go.RowKit
set_option linter.unusedVariables false
set_option linter.unusedSimpArgs false

theorem IsRow.later {w x : World} {a : Option Addr} {len cap : Nat} {zs : List Int} (h : IsRow w a len cap zs) (hb : Below w.heap.size w x) : IsRow x a len cap zs := by
  rcases h with h | ⟨p, e, hl, hm, hz, hcell, hwz⟩
  · exact .inl h
  · refine .inr ⟨p, e, hl, hm, hz, fun i hi => ?_, hwz⟩
    have hc := hcell i hi
    exact (hb.cell (World.block_lt_of_cell? w _ hc)).trans hc

theorem wrap_emod (n : Int) : wrapF n = (n + 16) % 32 - 16 := by
  unfold wrapF
  have e : n.tmod 32 = if 0 ≤ n then n % 32 else -((-n) % 32) := by
    split
    · exact Int.tmod_eq_emod_of_nonneg (by omega)
    · have e1 : n.tmod 32 = -((-n).tmod 32) := by rw [Int.neg_tmod]; omega
      rw [e1, Int.tmod_eq_emod_of_nonneg (by omega)]
  rw [e]
  split <;> (repeat' split) <;> omega
theorem ring_dist (a b c : Int) : wrapF (a * wrapF (b + c)) = wrapF (wrapF (a * b) + wrapF (a * c)) := by
  obtain ⟨k, hk⟩ : ∃ k, wrapF (b + c) = b + c + 32 * k := ⟨-((b + c + 16) / 32), by rw [wrap_emod]; omega⟩
  rw [hk]
  have e : a * (b + c + 32 * k) = a * b + a * c + 32 * (a * k) := by rw [Int.mul_add, Int.mul_add, ← Int.mul_assoc, Int.mul_comm a 32, Int.mul_assoc]
  rw [e]
  generalize a * b = x
  generalize a * c = y
  generalize a * k = z
  simp only [wrap_emod]
  omega
theorem ring_back (a b : Int) (h1 : -16 ≤ a) (h2 : a ≤ 15) : wrapF (wrapF (a + b) - b) = a := by
  simp only [wrap_emod]
  omega

theorem do_w (op a b : Int) (w : World) (hop : op = 1 ∨ op = 2 ∨ op = 3) (a0 : -16 ≤ a) (a1 : a ≤ 15) (b0 : -16 ≤ b) (b1 : b ≤ 15) :
    Calls Try.prog 18 #[.int .i64 op, .int .i64 a, .int .i64 b] w fun e w' => ∃ v : Int, e = .returned (.tuple #[.int .i64 v, .bool true]) ∧ Hid (v = wrapF (rawF op a b)) ∧ -16 ≤ v ∧ v ≤ 15 ∧ Below w.heap.size w w' := by
  refine (do_impl op a b w).mono ?_
  rintro e w' ⟨rfl, hb⟩
  have hk : doOk op a b = true := by simp [doOk, isW, canF]; omega
  have hv : doF op a b = wrapF (rawF op a b) := by simp [doF, hk]
  exact ⟨doF op a b, by rw [hk], hv, by rw [hv]; exact (wrapF_bd _).1, by rw [hv]; exact (wrapF_bd _).2, hb⟩

set_option maxRecDepth 100000 in
set_option maxHeartbeats 2000000 in
theorem doRing_walk (a : Option Addr) (len cap : Nat) (zs : List Int) (a' : Option Addr) (len' cap' : Nat) (zs' : List Int) (w : World) (h : IsRow w a len cap zs) (h' : IsRow w a' len' cap' zs') :
    Calls Try.prog 13 #[.slice a len cap, .slice a' len' cap'] w fun e w' => e = .returned (.bool true) ∧ Below w.heap.size w w' := by
  have hm := row_len h
  have hm' := row_len h'
  unfold maxLen at hm hm'
  by_cases hl : (1048576 : Int) < (len : Int)
  · clear h h'
    go_enter Try.func13, Try.ntmps13
    go_wp2
    go_ret
    exact ⟨rfl, by go_grown⟩
  · by_cases hl' : (1048576 : Int) < (len' : Int)
    · clear h h'
      go_enter Try.func13, Try.ntmps13
      go_wp2
      go_ret
      exact ⟨rfl, by go_grown⟩
    · go_enter Try.func13, Try.ntmps13
      go_wp2_with fail
      refine (drawNumDo_any a len cap zs _ h).mono ?_
      rintro e x ⟨op, p, q, rfl, op0, op1, p0, p1, q0, q1, hb⟩
      go_wp2_with fail
      refine (drawNumDo_any a' len' cap' zs' _ (h'.later hb)).mono ?_
      rintro e x1 ⟨op2, s, q2, rfl, _, _, s0, s1, _, _, hb1⟩
      have hB := hb.trans (hb1.mono hb.size)
      clear h h' hb hb1
      go_wp2_with fail
      refine (do_impl op p q _).mono ?_
      rintro e x2 ⟨rfl, hb2⟩
      have hB2 := hB.trans (hb2.mono hB.size)
      clear hB hb2
      obtain ⟨d, dk, Hd, Hk⟩ : ∃ d dk, Hid (doF op p q = d) ∧ Hid (doOk op p q = dk) := ⟨_, _, rfl, rfl⟩
      rw [Hd.out, Hk.out]
      go_wp2_with fail
      refine (do_spec op p q _).mono ?_
      rintro e x3 ⟨rfl, rfl⟩
      rw [Hd.out, Hk.out]
      go_wp2_with fail
      all_goals
        refine (ok_spec _ _ _ _).mono ?_
        rintro e x4 ⟨rfl, hb4⟩
        have hB4 := hB2.trans (hb4.mono hB2.size)
        clear hB2 hb4
        by_cases hw : (-16 ≤ p ∧ p ≤ 15) ∧ (-16 ≤ q ∧ q ≤ 15) ∧ -16 ≤ s ∧ s ≤ 15
        · rw [okF_t (by omega)]
          obtain ⟨⟨w1, w2⟩, ⟨w3, w4⟩, w5, w6⟩ := hw
          go_wp2_with fail
          refine (do_w 1 p q _ (.inl rfl) w1 w2 w3 w4).mono ?_
          rintro e y1 ⟨v1, rfl, g1, v10, v11, c1⟩
          go_wp2_with fail
          refine (do_w 1 q p _ (.inl rfl) w3 w4 w1 w2).mono ?_
          rintro e y2 ⟨v2, rfl, g2, v20, v21, c2⟩
          obtain rfl : v2 = v1 := by rw [g1.out, g2.out]; simp [rawF, Int.add_comm]
          go_wp2_with fail
          refine (do_w 1 q s _ (.inl rfl) w3 w4 w5 w6).mono ?_
          rintro e y3 ⟨v3, rfl, g3, v30, v31, c3⟩
          go_wp2_with fail
          refine (do_w 3 p q _ (.inr (.inr rfl)) w1 w2 w3 w4).mono ?_
          rintro e y4 ⟨v4, rfl, g4, v40, v41, c4⟩
          go_wp2_with fail
          refine (do_w 3 p s _ (.inr (.inr rfl)) w1 w2 w5 w6).mono ?_
          rintro e y5 ⟨v5, rfl, g5, v50, v51, c5⟩
          go_wp2_with fail
          refine (do_w 3 p v3 _ (.inr (.inr rfl)) w1 w2 v30 v31).mono ?_
          rintro e y6 ⟨v6, rfl, g6, v60, v61, c6⟩
          go_wp2_with fail
          refine (do_w 1 v4 v5 _ (.inl rfl) v40 v41 v50 v51).mono ?_
          rintro e y7 ⟨v7, rfl, g7, v70, v71, c7⟩
          obtain rfl : v7 = v6 := by rw [g6.out, g7.out, g3.out, g4.out, g5.out]; simp [rawF, ring_dist]
          go_wp2_with fail
          refine (do_w 2 v2 q _ (.inr (.inl rfl)) v20 v21 w3 w4).mono ?_
          rintro e y8 ⟨v8, rfl, g8, v80, v81, c8⟩
          obtain rfl : v8 = p := by rw [g8.out, g2.out]; simp only [rawF]; have := ring_back p q w1 w2; simpa [Int.add_comm] using this
          go_wp2
          go_ret
          refine ⟨rfl, ?_⟩
          have d1 := hB4.trans (c1.mono hB4.size)
          have d2 := d1.trans (c2.mono d1.size)
          have d3 := d2.trans (c3.mono d2.size)
          have d4 := d3.trans (c4.mono d3.size)
          have d5 := d4.trans (c5.mono d4.size)
          have d6 := d5.trans (c6.mono d5.size)
          have d7 := d6.trans (c7.mono d6.size)
          exact d7.trans (c8.mono d7.size)
        · rw [okF_n (by omega)]
          go_wp2
          go_ret
          exact ⟨rfl, hB4⟩
end Go.Proofs.Ytkdlfojjfionkaa
