import Derived.Test.YtbjegekfghihkaaB25
/-
  The last frame of a run, and whether a site is its: the contracts of top and isOf.
-/
namespace Go.Proofs.Ytbjegekfghihkaa
open Go.RowKit
set_option linter.unusedVariables false
set_option linter.unusedSimpArgs false

set_option maxRecDepth 100000 in
set_option maxHeartbeats 2000000 in
theorem top_any (x0 : World) (m g o : Nat) (n cap : Nat) (hb : x0.cell? ⟨m, 0, none⟩ = some (.slice (some ⟨g, o, none⟩) n cap)) (h0 : 0 < n) (h5 : n ≤ 5) (hm : m < x0.heap.size) (hg : g < x0.heap.size) :
    Calls Try.prog 82 #[.pointer (some ⟨m, 0, none⟩)] x0 fun e y => e = .returned (.pointer (some ⟨g, o + (n - 1) * 6, none⟩)) ∧ Below x0.heap.size x0 y := by
  obtain ⟨k, rfl⟩ : ∃ k, n = k + 1 := ⟨n - 1, by omega⟩
  have h1 : ((k + 1 : Nat) : Int) - 1 = k := by omega
  have h2 : (k : Int) < ((k + 1 : Nat) : Int) := by omega
  have h3 : ((k + 1 : Nat) : Int) ≤ 5 := by omega
  rw [show k + 1 - 1 = k by omega]
  go_enter Try.func82, Try.ntmps82
  go_wp2_with fail
  go_quiet (fail)
  go_wp2_with fail
  go_ret
  exact ⟨rfl, belowN _ _⟩

end Go.Proofs.Ytbjegekfghihkaa

/-
  Whether a site is of a frame's place: the contract of isOf.
-/
namespace Go.Proofs.Ytbjegekfghihkaa
open Go.RowKit
set_option linter.unusedVariables false
set_option linter.unusedSimpArgs false

set_option maxRecDepth 100000 in
set_option maxHeartbeats 2000000 in
theorem isOf_any (x0 : World) (g o : Nat) (p t : Int) (s : Int × Int × Int) (h0 : x0.cell? ⟨g, o, none⟩ = some (.int .i64 p)) (h2 : x0.cell? ⟨g, o + 2, none⟩ = some (.int .i64 t)) (hg : g < x0.heap.size) :
    Calls Try.prog 81 #[.agg #[.int .i64 s.1, .int .i64 s.2.1, .int .i64 s.2.2], .pointer (some ⟨g, o, none⟩)] x0 fun e y => e = .returned (.bool (decide (s.1 = p) && decide (s.2.1 = t))) ∧ Below x0.heap.size x0 y := by
  obtain ⟨a, b, c⟩ := s
  dsimp only
  have hg1 : g < x0.heap.size + 1 := by omega
  by_cases h3 : a = p
  · subst h3
    have HAl : Hid (Below x0.heap.size x0 (x0.alloc (.cells #[.int .i64 a, .int .i64 b, .int .i64 c] 54))) := (Below.refl _ _).alloc (Nat.le_refl _) _
    by_cases h4 : b = t
    · subst h4
      go_enter Try.func81, Try.ntmps81
      go_wp2_with fail
      go_quiet (fail)
      go_wp2_with fail
      go_ret
      exact ⟨retBool (by simp), HAl.out.trans ((belowN _ _).mono HAl.out.size)⟩
    · have h4' : (b == t) = false := by simpa using h4
      go_enter Try.func81, Try.ntmps81
      go_wp2_with fail
      go_quiet (fail)
      go_wp2_with fail
      go_ret
      exact ⟨retBool (by simp [h4]), HAl.out.trans ((belowN _ _).mono HAl.out.size)⟩
  · have h3' : (a == p) = false := by simpa using h3
    have HAl : Hid (Below x0.heap.size x0 (x0.alloc (.cells #[.int .i64 a, .int .i64 b, .int .i64 c] 54))) := (Below.refl _ _).alloc (Nat.le_refl _) _
    go_enter Try.func81, Try.ntmps81
    go_wp2_with fail
    go_quiet (fail)
    go_wp2_with fail
    go_ret
    exact ⟨retBool (by simp [h3]), HAl.out.trans ((belowN _ _).mono HAl.out.size)⟩

end Go.Proofs.Ytbjegekfghihkaa
