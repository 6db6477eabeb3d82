/-
  The laws' own helpers on a run that begins: eqRun.
-/
import Derived.Test.YtpogahhfdneagaaRNewB
namespace Go.Proofs.Ytpogahhfdneagaa
open Go.RowKit
set_option linter.unusedVariables false
set_option linter.unusedSimpArgs false

theorem IntsAt.of3 {x : World} {g cap : Nat} {a b c : Int} (hg : g < x.heap.size) (h0 : x.cell? ⟨g, 0, none⟩ = some (.int .i64 a)) (h1 : x.cell? ⟨g, 1, none⟩ = some (.int .i64 b)) (h2 : x.cell? ⟨g, 2, none⟩ = some (.int .i64 c)) :
    IntsAt false x 0 x.heap.size (.slice (some ⟨g, 0, none⟩) 3 cap) [a, b, c] := by
  refine ⟨_, cap, rfl, by unfold maxLen; simp, .inr ⟨g, 0, rfl, Nat.zero_le _, hg, Nat.le_refl _, fun h => (by cases h), fun j hj => ?_⟩⟩
  have hj3 : j < 3 := hj
  match j, hj3 with
  | 0, _ => exact h0
  | 1, _ => exact h1
  | 2, _ => exact h2

/-- the value of a frame -/
def aggF (ga gb ca cb : Nat) (N : Nat → Int) : Value := .agg #[.int .i64 (N 0), .int .i64 (N 1), .int .i64 (N 2), .slice (some ⟨ga, 0, none⟩) 3 ca, .slice (some ⟨gb, 0, none⟩) 3 cb, .int .i64 (N 9)]

set_option maxRecDepth 100000 in
set_option maxHeartbeats 4000000 in
theorem eqFrame_same (x0 : World) (g ga gb g' ga' gb' ca cb ca' cb' : Nat) (N : Nat → Int) (h : RB x0 g ga gb ca cb N) (h' : RB x0 g' ga' gb' ca' cb' N) (l1 : ga < x0.heap.size) (l2 : gb < x0.heap.size) (l3 : ga' < x0.heap.size) (l4 : gb' < x0.heap.size) :
    Calls Try.prog 98 #[aggF ga gb ca cb N, aggF ga' gb' ca' cb' N] x0 fun e y => e = .returned (.bool true) ∧ Below x0.heap.size x0 y := by
  have HA : Hid (IntsAt false x0 0 x0.heap.size (.slice (some ⟨ga, 0, none⟩) 3 ca) [N 3, N 4, N 5]) := IntsAt.of3 l1 h.a0 h.a1 h.a2
  have HB : Hid (IntsAt false x0 0 x0.heap.size (.slice (some ⟨gb, 0, none⟩) 3 cb) [N 6, N 7, N 8]) := IntsAt.of3 l2 h.b0 h.b1 h.b2
  have HA' : Hid (IntsAt false x0 0 x0.heap.size (.slice (some ⟨ga', 0, none⟩) 3 ca') [N 3, N 4, N 5]) := IntsAt.of3 l3 h'.a0 h'.a1 h'.a2
  have HB' : Hid (IntsAt false x0 0 x0.heap.size (.slice (some ⟨gb', 0, none⟩) 3 cb') [N 6, N 7, N 8]) := IntsAt.of3 l4 h'.b0 h'.b1 h'.b2
  clear h h' l1 l2 l3 l4
  unfold aggF
  generalize N 0 = n0
  generalize N 1 = n1
  generalize N 2 = n2
  generalize N 9 = n9
  go_enter Try.func98, Try.ntmps98
  go_wp2_with fail
  generalize hX : (x0.alloc (.cells #[.int .i64 n0, .int .i64 n1, .int .i64 n2, .slice (some ⟨ga, 0, none⟩) 3 ca, .slice (some ⟨gb, 0, none⟩) 3 cb, .int .i64 n9] 98)).alloc (.cells #[.int .i64 n0, .int .i64 n1, .int .i64 n2, .slice (some ⟨ga', 0, none⟩) 3 ca', .slice (some ⟨gb', 0, none⟩) 3 cb', .int .i64 n9] 98) = X
  have hXB : Below x0.heap.size x0 X := by rw [← hX]; go_grown
  have hl1 : x0.heap.size + 1 < X.heap.size := by rw [← hX]; simp
  have k4 : X.cell? ⟨x0.heap.size, 4, none⟩ = some (.slice (some ⟨gb, 0, none⟩) 3 cb) := by rw [← hX]; simp [go_sem]
  have k5 : X.cell? ⟨x0.heap.size, 5, none⟩ = some (.int .i64 n9) := by rw [← hX]; simp [go_sem]
  have j4 : X.cell? ⟨x0.heap.size + 1, 4, none⟩ = some (.slice (some ⟨gb', 0, none⟩) 3 cb') := by rw [← hX]; simp [go_sem]
  have j5 : X.cell? ⟨x0.heap.size + 1, 5, none⟩ = some (.int .i64 n9) := by rw [← hX]; simp [go_sem]
  clear hX
  refine (eqIntS_same X false false _ _ _ _ _ _ _ (HA.out.later hXB) (HA'.out.later hXB)).mono ?_
  rintro e y ⟨rfl, hb⟩
  have hl0 : x0.heap.size < X.heap.size := by omega
  have hYB := hXB.trans (hb.mono hXB.size)
  have k4' := (hb.cell (p := ⟨x0.heap.size, 4, none⟩) hl0).trans k4
  have k5' := (hb.cell (p := ⟨x0.heap.size, 5, none⟩) hl0).trans k5
  have j4' := (hb.cell (p := ⟨x0.heap.size + 1, 4, none⟩) hl1).trans j4
  have j5' := (hb.cell (p := ⟨x0.heap.size + 1, 5, none⟩) hl1).trans j5
  have hy1 : x0.heap.size + 1 < y.heap.size := Nat.lt_of_lt_of_le hl1 hb.size
  have hy0 : x0.heap.size < y.heap.size := by omega
  clear hb hXB k4 k5 j4 j5 hl0 hl1
  go_wp2_with fail
  refine (eqIntS_same y false false _ _ _ _ _ _ _ (HB.out.later hYB) (HB'.out.later hYB)).mono ?_
  rintro e z ⟨rfl, hb⟩
  have hZB := hYB.trans (hb.mono hYB.size)
  have k5z := (hb.cell (p := ⟨x0.heap.size, 5, none⟩) hy0).trans k5'
  have j5z := (hb.cell (p := ⟨x0.heap.size + 1, 5, none⟩) hy1).trans j5'
  clear hb k4' k5' j4' j5' hYB
  go_wp2_with fail
  go_ret
  exact ⟨rfl, hZB⟩

end Go.Proofs.Ytpogahhfdneagaa
