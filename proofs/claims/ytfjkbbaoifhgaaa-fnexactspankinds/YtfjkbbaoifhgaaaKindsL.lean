/-
  The walk of the law FnExactSpanKinds.
-/
import Derived.Test.YtfjkbbaoifhgaaaInts
namespace Go.Proofs.Ytfjkbbaoifhgaaa
open Go.RowKit
set_option linter.unusedVariables false
set_option linter.unusedSimpArgs false

theorem below_drewN' (x : World) (n : Nat) : Below x.heap.size x (x.drewN n) := by
  induction n with
  | zero => exact Below.refl _ _
  | succ n ih => exact ih.drew
theorem eqInts_b (x : World) (B C : Nat) (v v' : Value) (L : List Int) (h : Owns x B v L) (h' : Owns x C v' L) :
    Calls Try.prog 17 #[v, v'] x fun e y => e = .returned (.bool true) ∧ Below x.heap.size x y := by
  refine (eqInts_same x B C v v' L h h').mono ?_
  rintro e y ⟨rfl, n, rfl⟩
  exact ⟨rfl, below_drewN' x n⟩
/-- a row stands where another one turns -/
theorem Owns.apart {x y : World} {B C : Nat} {v v' : Value} {L L' : List Int} (h : Owns x B v L) (h' : Owns x C v' L') (hg : x.grownBy y v'.ownBlock) (hC : ∀ k, v.ownBlock = some k → k < C) : Owns y B v L := by
  refine World.ownsRow.kept h hg ?_
  cases hv : v.ownBlock with
  | none => exact .inl rfl
  | some k =>
    refine .inr fun e => ?_
    have := (World.ownsRow.lt h' k (by rw [← e])).1
    have := hC k hv
    omega

set_option maxHeartbeats 4000000 in
theorem exactSpanKinds_walk (a : Bool) (l u : Int) (w : World) (wl : (Lit.int .i64 l).wf = true) (wu : (Lit.int .i64 u).wf = true) :
    Calls Try.prog 4 #[.agg #[.bool a, .int .i64 l, .int .i64 u]] w fun e w' => e = .returned (.bool true) ∧ Below w.heap.size w w' := by
  clear wl wu
  have hN := KL_len a l u 3
  have hS0 : Below w.heap.size w (w.alloc (.cells #[.bool a, .int .i64 l, .int .i64 u] 27)) ∧ w.heap.size < (w.alloc (.cells #[.bool a, .int .i64 l, .int .i64 u] 27)).heap.size ∧ (w.alloc (.cells #[.bool a, .int .i64 l, .int .i64 u] 27)).cell? ⟨w.heap.size, 0, none⟩ = some (.bool a) ∧ (w.alloc (.cells #[.bool a, .int .i64 l, .int .i64 u] 27)).cell? ⟨w.heap.size, 1, none⟩ = some (.int .i64 l) ∧ (w.alloc (.cells #[.bool a, .int .i64 l, .int .i64 u] 27)).cell? ⟨w.heap.size, 2, none⟩ = some (.int .i64 u) :=
    ⟨by go_grown, by go_size, by simp [go_sem], by simp [go_sem], by simp [go_sem]⟩
  have H0 := hS0
  clear hS0
  go_enter Try.func4, Try.ntmps4
  go_wp2_with fail
  refine (toSpan_any _ _ _ _).mono ?_
  rintro e w1 ⟨rfl, hb1⟩
  have hS1 := keep1 H0 hb1
  clear H0 hb1
  go_wp2_with fail
  refine (kinds_spec _ _ _ _).mono ?_
  rintro e w2 ⟨v0, rfl, ho0, hb2⟩
  have hS2 := keep1 hS1 hb2
  clear hS1 hb2
  go_wp2_with fail
  refine (toSpan_any _ _ _ _).mono ?_
  rintro e w3 ⟨rfl, hb3⟩
  have hS3 := keep1 hS2 hb3
  have hw3 : w.heap.size < w3.heap.size := hS3.2.1
  have ho03 := ho0.later hb3
  have hlt0 : ∀ k, v0.ownBlock = some k → k < w3.heap.size + 1 := fun k hk => by have := (World.ownsRow.lt ho03 k hk).2; omega
  clear hS2 hb3 ho0
  go_wp2_with fail
  refine (kinds_impl _ _ _ _).mono ?_
  rintro e w4 ⟨v1, rfl, ho1, hb4⟩
  have hS4 := keep1 hS3 hb4
  have ho04 := ho03.later hb4
  clear hS3 hb4 ho03
  go_wp2_with fail
  refine (eqInts_b _ _ _ _ _ _ ho1 ho04).mono ?_
  rintro e w5 ⟨rfl, hb5⟩
  have hS5 := keep1 hS4 hb5
  have ho05 := ho04.later hb5
  have ho15 := ho1.later hb5
  clear hS4 hb5 ho04 ho1
  go_wp2_with fail
  refine (markInts_any _ _ _ _ 1 ho15 (by omega) (by omega) (by omega)).mono ?_
  rintro e w6 ⟨rfl, L', hl', ho16, hval, hg⟩
  have hS6 := keep1g hS5 (ho15.lower (by omega)) (Nat.le_refl _) hg
  have ho06 := ho05.apart ho15 hg hlt0
  rw [← hl'] at hval
  have HV : Hid (∀ j, j < L'.length → L'.getD j 0 = 1 + (j : Int)) := hval
  have hN' : L'.length ≤ 3 := by omega
  clear hS5 ho05 ho15 hg hval
  rw [← hl']
  have HL : Hid (L'.length = (KL a l u 3).length) := hl'
  clear hl'
  go_wp2_with fail
  refine (heldInts_any _ _ _ _ 1 ho16 (by omega) (by omega) (by omega) HV.out).mono ?_
  rintro e w7 ⟨rfl, rfl⟩
  generalize hM : L'.length = M at *
  have HM : Hid (L'.length = M) := hM
  clear hM
  have hneg : ¬ (1 + (M : Int)) < 0 := by omega
  go_wp2_with fail
  refine (toSpan_any _ _ _ _).mono ?_
  rintro e w8 ⟨rfl, hb8⟩
  have hS8 := keep1 hS6 hb8
  have ho08 := ho06.later hb8
  have ho18 := ho16.later hb8
  clear hS6 hb8 ho06 ho16
  go_wp2_with fail
  refine (kinds_impl _ _ _ _).mono ?_
  rintro e w9 ⟨v2, rfl, ho2, hb9⟩
  have hS9 := keep1 hS8 hb9
  have ho09 := ho08.later hb9
  have ho19 := ho18.later hb9
  clear hS8 hb9 ho08 ho18
  go_wp2_with fail
  refine (eqInts_b _ _ _ _ _ _ ho2 ho09).mono ?_
  rintro e w10 ⟨rfl, hb10⟩
  have hS10 := keep1 hS9 hb10
  have ho110 := ho19.later hb10
  clear hS9 hb10 ho19 ho09 ho2
  go_wp2_with fail
  refine (heldInts_any _ _ _ _ 1 ho110 (by omega) (by omega) (by rw [HM.out]; omega) (by rw [HM.out]; exact HV.out)).mono ?_
  rintro e w11 ⟨rfl, rfl⟩
  rw [HM.out]
  go_wp2
  go_ret
  exact ⟨rfl, hS10.1⟩
end Go.Proofs.Ytfjkbbaoifhgaaa
