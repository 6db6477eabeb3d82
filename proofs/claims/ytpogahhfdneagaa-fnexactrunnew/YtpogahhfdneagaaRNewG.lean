/-
  The laws' own helpers on a run that begins: eqRun, markRun, heldRun.
-/
import Derived.Test.YtpogahhfdneagaaRNewF
namespace Go.Proofs.Ytpogahhfdneagaa
open Go.RowKit
set_option linter.unusedVariables false
set_option linter.unusedSimpArgs false

/-- a box of a run of frames alone -/
structure B7 (x : World) (m : Nat) (s : Value) : Prop where
  lt : m < x.heap.size
  c0 : x.cell? ⟨m, 0, none⟩ = some s
  c1 : x.cell? ⟨m, 1, none⟩ = some (.int .i64 0)
  c2 : x.cell? ⟨m, 2, none⟩ = some (.int .i64 0)
  c3 : x.cell? ⟨m, 3, none⟩ = some (.int .i64 0)
  c4 : x.cell? ⟨m, 4, none⟩ = some (.int .i64 0)
  c5 : x.cell? ⟨m, 5, none⟩ = some (.int .i64 0)
  c6 : x.cell? ⟨m, 6, none⟩ = some (.int .i64 0)
theorem B7.new (x : World) (s : Value) (t : TypeId) : B7 (x.alloc (.cells #[s, .int .i64 0, .int .i64 0, .int .i64 0, .int .i64 0, .int .i64 0, .int .i64 0] t)) x.heap.size s :=
  ⟨by simp, by simp [go_sem], by simp [go_sem], by simp [go_sem], by simp [go_sem], by simp [go_sem], by simp [go_sem], by simp [go_sem]⟩
theorem B7.later {x y : World} {m : Nat} {s : Value} (h : B7 x m s) (hb : Below x.heap.size x y) : B7 y m s :=
  ⟨Nat.lt_of_lt_of_le h.lt hb.size, (hb.cell (p := ⟨m, 0, none⟩) h.lt).trans h.c0, (hb.cell (p := ⟨m, 1, none⟩) h.lt).trans h.c1, (hb.cell (p := ⟨m, 2, none⟩) h.lt).trans h.c2, (hb.cell (p := ⟨m, 3, none⟩) h.lt).trans h.c3, (hb.cell (p := ⟨m, 4, none⟩) h.lt).trans h.c4, (hb.cell (p := ⟨m, 5, none⟩) h.lt).trans h.c5, (hb.cell (p := ⟨m, 6, none⟩) h.lt).trans h.c6⟩

set_option maxRecDepth 100000 in
set_option maxHeartbeats 2000000 in
theorem eqFrameS_nil (x0 : World) (p p' : Option Addr) (cap cap' : Nat) : Calls Try.prog 65 #[.slice p 0 cap, .slice p' 0 cap'] x0 fun e y => e = .returned (.bool true) ∧ Below x0.heap.size x0 y := by
  go_enter Try.func65, Try.ntmps65
  go_wp2_with fail
  go_rounds 1
  go_ret
  exact ⟨rfl, Below.refl _ _⟩

set_option maxRecDepth 100000 in
set_option maxHeartbeats 4000000 in
theorem eqRun_of (x0 : World) (p p' : Option Addr) (n n' cap cap' : Nat) (h : ∀ z, Below x0.heap.size x0 z → Calls Try.prog 65 #[.slice p n cap, .slice p' n' cap'] z fun e y => e = .returned (.bool true) ∧ Below z.heap.size z y) :
    Calls Try.prog 32 #[aggR (.slice p n cap), aggR (.slice p' n' cap')] x0 fun e y => e = .returned (.bool true) ∧ Below x0.heap.size x0 y := by
  have H : Hid (∀ z, Below x0.heap.size x0 z → Calls Try.prog 65 #[.slice p n cap, .slice p' n' cap'] z fun e y => e = .returned (.bool true) ∧ Below z.heap.size z y) := h
  clear h
  unfold aggR
  go_enter Try.func32, Try.ntmps32
  go_wp2_with fail
  generalize hX : (x0.alloc (.cells #[.slice p n cap, .int .i64 0, .int .i64 0, .int .i64 0, .int .i64 0, .int .i64 0, .int .i64 0] 56)).alloc (.cells #[.slice p' n' cap', .int .i64 0, .int .i64 0, .int .i64 0, .int .i64 0, .int .i64 0, .int .i64 0] 56) = X
  have hXB : Below x0.heap.size x0 X := by rw [← hX]; go_grown
  have hA : B7 X x0.heap.size (.slice p n cap) := by rw [← hX]; exact (B7.new _ _ _).later ((Below.refl _ _).alloc (Nat.le_refl _) _)
  have hB : B7 X (x0.heap.size + 1) (.slice p' n' cap') := by
    rw [← hX]
    have := B7.new (x0.alloc (.cells #[.slice p n cap, .int .i64 0, .int .i64 0, .int .i64 0, .int .i64 0, .int .i64 0, .int .i64 0] 56)) (.slice p' n' cap') 56
    simpa using this
  clear hX
  refine (H.out X hXB).mono ?_
  rintro e y ⟨rfl, hb⟩
  have hYB := hXB.trans (hb.mono hXB.size)
  obtain ⟨a, a0, a1, a2, a3, a4, a5, a6⟩ := hA.later hb
  obtain ⟨b, b0, b1, b2, b3, b4, b5, b6⟩ := hB.later hb
  clear hb hXB hA hB
  go_wp2_with fail
  refine (eqSite_at (0, 0, 0) _).mono ?_
  rintro e z ⟨rfl, hb⟩
  have hZB := hYB.trans (hb.mono hYB.size)
  clear hb
  go_wp2_with fail
  go_ret
  exact ⟨rfl, hZB⟩

theorem eqRun_same (x0 : World) (B E C D : Nat) (u v : Value) (o : Option (Nat → Int)) (h : RunAt x0 B E u o) (h' : RunAt x0 C D v o) :
    Calls Try.prog 32 #[u, v] x0 fun e y => e = .returned (.bool true) ∧ Below x0.heap.size x0 y := by
  cases o with
  | none =>
    obtain ⟨p, cap, rfl⟩ := h
    obtain ⟨p', cap', rfl⟩ := h'
    exact eqRun_of x0 p p' 0 0 cap cap' fun z _ => eqFrameS_nil z p p' cap cap'
  | some N =>
    obtain ⟨g, ga, gb, cap, rfl, ⟨_, _, _, h4, h5, h6, h7⟩, _, hr⟩ := h
    obtain ⟨g', ga', gb', cap', rfl, ⟨_, _, _, k4, k5, k6, k7⟩, _, hr'⟩ := h'
    refine eqRun_of x0 _ _ 1 1 cap cap' fun z hz => ?_
    have hs := hz.size
    exact eqFrameS_same z g ga gb g' ga' gb' cap cap' N (hr.later hz (by omega) (by omega) (by omega)) (hr'.later hz (by omega) (by omega) (by omega)) (by omega) (by omega) (by omega) (by omega) (by omega) (by omega)

set_option maxRecDepth 100000 in
set_option maxHeartbeats 4000000 in
theorem markIntS_3 (x0 : World) (g cap : Nat) (a b c k : Int) (h0 : x0.cell? ⟨g, 0, none⟩ = some (.int .i64 a)) (h1 : x0.cell? ⟨g, 1, none⟩ = some (.int .i64 b)) (h2 : x0.cell? ⟨g, 2, none⟩ = some (.int .i64 c)) (hf : ∀ j, x0.frozen? ⟨g, j, none⟩ = false) (hk0 : 0 ≤ k) (hk1 : k ≤ 100) :
    Calls Try.prog 99 #[.slice (some ⟨g, 0, none⟩) 3 cap, .int .i64 k] x0 fun e y => e = .returned (.int .i64 (k + 1 + 1 + 1)) ∧ y = set3 x0 g 0 (.int .i64 k) (.int .i64 (k + 1)) (.int .i64 (k + 1 + 1)) := by
  have f0 := hf 0
  have f1 := hf 1
  have f2 := hf 2
  clear hf
  go_enter Try.func99, Try.ntmps99
  go_wp2_with fail
  go_rounds 4
  go_ret
  exact ⟨rfl, rfl⟩
set_option maxRecDepth 100000 in
set_option maxHeartbeats 4000000 in
theorem heldIntS_3 (x0 : World) (g cap : Nat) (k : Int) (h0 : x0.cell? ⟨g, 0, none⟩ = some (.int .i64 k)) (h1 : x0.cell? ⟨g, 1, none⟩ = some (.int .i64 (k + 1))) (h2 : x0.cell? ⟨g, 2, none⟩ = some (.int .i64 (k + 1 + 1))) (hk0 : 0 ≤ k) (hk1 : k ≤ 100) :
    Calls Try.prog 100 #[.slice (some ⟨g, 0, none⟩) 3 cap, .int .i64 k] x0 fun e y => e = .returned (.int .i64 (k + 1 + 1 + 1)) ∧ y = x0 := by
  go_enter Try.func100, Try.ntmps100
  go_wp2_with fail
  go_rounds 4
  go_ret
  exact ⟨rfl, rfl⟩

end Go.Proofs.Ytpogahhfdneagaa
