/-
  The laws' own helpers on a run that begins: heldFrameS, markRun, heldRun.
-/
import Derived.Test.YtpogahhfdneagaaRNewH
namespace Go.Proofs.Ytpogahhfdneagaa
open Go.RowKit
set_option linter.unusedVariables false
set_option linter.unusedSimpArgs false

def markN : Nat → Int := fun j => (j : Int) + 1
set_option maxRecDepth 100000 in
set_option maxHeartbeats 4000000 in
theorem heldFrameS_one (x0 : World) (g ga gb cap : Nat) (h : RB x0 g ga gb 3 3 markN) :
    Calls Try.prog 67 #[.slice (some ⟨g, 0, none⟩) 1 cap, .int .i64 1] x0 fun e y => e = .returned (.int .i64 11) ∧ y = x0 := by
  obtain ⟨c0, c1, c2, c3, c4, c5, a0, a1, a2, b0, b1, b2, fg, fa, fb⟩ := h
  have c0' : x0.cell? ⟨g, 0, none⟩ = some (.int .i64 1) := c0
  have c1' : x0.cell? ⟨g, 1, none⟩ = some (.int .i64 2) := c1
  have c2' : x0.cell? ⟨g, 2, none⟩ = some (.int .i64 3) := c2
  have c5' : x0.cell? ⟨g, 5, none⟩ = some (.int .i64 10) := c5
  have HA : Hid (Calls Try.prog 100 #[.slice (some ⟨ga, 0, none⟩) 3 3, .int .i64 4] x0 fun e y => e = .returned (.int .i64 7) ∧ y = x0) := heldIntS_3 x0 ga 3 4 a0 a1 a2 (by omega) (by omega)
  have HB : Hid (Calls Try.prog 100 #[.slice (some ⟨gb, 0, none⟩) 3 3, .int .i64 7] x0 fun e y => e = .returned (.int .i64 10) ∧ y = x0) := heldIntS_3 x0 gb 3 7 b0 b1 b2 (by omega) (by omega)
  clear c0 c1 c2 c5 a0 a1 a2 b0 b1 b2 fg fa fb
  go_enter Try.func67, Try.ntmps67
  go_wp2_with fail
  go_loopw [1, 5] (fun m t y => (t = .int .i64 0 ∧ m = .int .i64 1 ∧ x0 = y) ∨ (t = .int .i64 1 ∧ m = .int .i64 11 ∧ x0 = y)) (fun _ t _ => 1 - (intOf t).toNat)
  case atStart => exact .inl ⟨rfl, rfl, rfl⟩
  case round =>
    rcases hrel with ⟨rfl, rfl, rfl⟩ | ⟨rfl, rfl, rfl⟩
    · go_wp2_with fail
      refine HA.out.mono ?_
      rintro e y ⟨rfl, hy⟩
      have hy' := hy.symm
      subst hy'
      clear hy
      go_wp2_with fail
      refine HB.out.mono ?_
      rintro e y ⟨rfl, hy⟩
      have hy' := hy.symm
      subst hy'
      clear hy
      go_wp2_with fail
      go_roundw
      case rel => exact .inr ⟨rfl, rfl, by first | rfl | trivial⟩
      case measure => simp [intOf]
    · go_wp2_with fail
      go_ret
      exact ⟨rfl, by first | rfl | trivial⟩
set_option maxRecDepth 100000 in
set_option maxHeartbeats 2000000 in
theorem markFrameS_nil (x0 : World) (p : Option Addr) (cap : Nat) : Calls Try.prog 66 #[.slice p 0 cap, .int .i64 1] x0 fun e y => e = .returned (.int .i64 1) ∧ y = x0 := by
  go_enter Try.func66, Try.ntmps66
  go_wp2_with fail
  go_rounds 1
  go_ret
  exact ⟨rfl, rfl⟩
set_option maxRecDepth 100000 in
set_option maxHeartbeats 2000000 in
theorem heldFrameS_nil (x0 : World) (p : Option Addr) (cap : Nat) : Calls Try.prog 67 #[.slice p 0 cap, .int .i64 1] x0 fun e y => e = .returned (.int .i64 1) ∧ y = x0 := by
  go_enter Try.func67, Try.ntmps67
  go_wp2_with fail
  go_rounds 1
  go_ret
  exact ⟨rfl, rfl⟩

def boxR (x : World) (s : Value) : World := x.alloc (.cells #[s, .int .i64 0, .int .i64 0, .int .i64 0, .int .i64 0, .int .i64 0, .int .i64 0] 56)
theorem below_boxR (x : World) (s : Value) : Below x.heap.size x (boxR x s) := (Below.refl _ _).alloc (Nat.le_refl _) _

set_option maxRecDepth 100000 in
set_option maxHeartbeats 2000000 in
theorem markRun_of (x0 : World) (p : Option Addr) (n cap : Nat) (K : Int) (Y : World → Prop) (hK : 0 ≤ K) (h : Calls Try.prog 66 #[.slice p n cap, .int .i64 1] (boxR x0 (.slice p n cap)) fun e y => e = .returned (.int .i64 K) ∧ Y y) :
    Calls Try.prog 33 #[aggR (.slice p n cap), .int .i64 1] x0 fun e y => e = .returned (.int .i64 K) ∧ Y y := by
  have H : Hid (Calls Try.prog 66 #[.slice p n cap, .int .i64 1] (boxR x0 (.slice p n cap)) fun e y => e = .returned (.int .i64 K) ∧ Y y) := h
  clear h
  unfold aggR
  go_enter Try.func33, Try.ntmps33
  go_wp2_with fail
  refine H.out.mono ?_
  rintro e y ⟨rfl, hy⟩
  have HYY : Hid (Y y) := hy
  clear hy
  go_wp2_with fail
  go_ret
  exact ⟨rfl, HYY.out⟩
set_option maxRecDepth 100000 in
set_option maxHeartbeats 2000000 in
theorem heldRun_of (x0 : World) (p : Option Addr) (n cap : Nat) (K : Int) (Y : World → Prop) (hK : 0 ≤ K) (h : Calls Try.prog 67 #[.slice p n cap, .int .i64 1] (boxR x0 (.slice p n cap)) fun e y => e = .returned (.int .i64 K) ∧ Y y) :
    Calls Try.prog 34 #[aggR (.slice p n cap), .int .i64 1] x0 fun e y => e = .returned (.int .i64 K) ∧ Y y := by
  have H : Hid (Calls Try.prog 67 #[.slice p n cap, .int .i64 1] (boxR x0 (.slice p n cap)) fun e y => e = .returned (.int .i64 K) ∧ Y y) := h
  clear h
  have hK' : ¬ K < 0 := by omega
  unfold aggR
  go_enter Try.func34, Try.ntmps34
  go_wp2_with fail
  refine H.out.mono ?_
  rintro e y ⟨rfl, hy⟩
  have HYY : Hid (Y y) := hy
  clear hy
  go_wp2_with fail
  go_ret
  exact ⟨rfl, HYY.out⟩

/-- the last number that a run's marks come to -/
def runK (o : Option (Nat → Int)) : Int := if o.isSome = true then 11 else 1
theorem runK_pos (o : Option (Nat → Int)) : 0 ≤ runK o := by unfold runK; split <;> omega
theorem markRun_any (x0 : World) (B E : Nat) (u : Value) (o : Option (Nat → Int)) (h : RunAt x0 B E u o) :
    Calls Try.prog 33 #[u, .int .i64 1] x0 fun e y => e = .returned (.int .i64 (runK o)) ∧ (RunAt y B E u (o.map fun _ => markN) ∧ ∃ x1, Below x0.heap.size x0 x1 ∧ Within B E x1 y) := by
  cases o with
  | none =>
    obtain ⟨p, cap, rfl⟩ := h
    exact markRun_of x0 p 0 cap 1 _ (by omega) ((markFrameS_nil _ p cap).mono fun e y ⟨he, hy⟩ => ⟨he, ⟨p, cap, rfl⟩, y, by rw [hy]; exact below_boxR _ _, Within.refl _ _ _⟩)
  | some N =>
    obtain ⟨g, ga, gb, cap, rfl, ⟨h1, h2, h3, h4, h5, h6, h7⟩, ⟨n1, n2, n3⟩, hr⟩ := h
    have hr' := hr.later (below_boxR x0 (.slice (some ⟨g, 0, none⟩) 1 cap)) (by omega) (by omega) (by omega)
    refine markRun_of x0 _ 1 cap 11 _ (by omega) ((markFrameS_one _ g ga gb cap N hr' n1 n2 n3).mono fun e y ⟨he, hy⟩ => ⟨he, ?_, boxR x0 (.slice (some ⟨g, 0, none⟩) 1 cap), below_boxR _ _, by rw [hy]; exact marked_within h1 h2 h3 h4 h5 h6⟩)
    have hw : Within B E (boxR x0 (.slice (some ⟨g, 0, none⟩) 1 cap)) y := by rw [hy]; exact marked_within h1 h2 h3 h4 h5 h6
    have hs := (below_boxR x0 (.slice (some ⟨g, 0, none⟩) 1 cap)).size
    exact ⟨g, ga, gb, cap, rfl, ⟨h1, h2, h3, h4, h5, h6, by rw [← hw.sz]; omega⟩, ⟨n1, n2, n3⟩, by rw [hy]; exact marked_rb hr' n1 n2 n3⟩
theorem heldRun_same (x0 : World) (B E : Nat) (u : Value) (o : Option (Nat → Int)) (h : RunAt x0 B E u (o.map fun _ => markN)) :
    Calls Try.prog 34 #[u, .int .i64 1] x0 fun e y => e = .returned (.int .i64 (runK o)) ∧ Below x0.heap.size x0 y := by
  cases o with
  | none =>
    obtain ⟨p, cap, rfl⟩ := h
    exact heldRun_of x0 p 0 cap 1 _ (by omega) ((heldFrameS_nil _ p cap).mono fun e y ⟨he, hy⟩ => ⟨he, by rw [hy]; exact below_boxR _ _⟩)
  | some N =>
    obtain ⟨g, ga, gb, cap, rfl, ⟨h1, h2, h3, h4, h5, h6, h7⟩, _, hr⟩ := h
    exact heldRun_of x0 _ 1 cap 11 _ (by omega) ((heldFrameS_one _ g ga gb cap (hr.later (below_boxR _ _) (by omega) (by omega) (by omega))).mono fun e y ⟨he, hy⟩ => ⟨he, by rw [hy]; exact below_boxR _ _⟩)

end Go.Proofs.Ytpogahhfdneagaa
