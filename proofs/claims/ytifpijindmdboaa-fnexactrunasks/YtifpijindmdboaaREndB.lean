/-
  Whether a site is of a frame's place: the contract of isOf.
-/
import Derived.Test.YtifpijindmdboaaRSit
namespace Go.Proofs.Ytifpijindmdboaa
open Go.RowKit
set_option linter.unusedVariables false
set_option linter.unusedSimpArgs false

set_option maxRecDepth 100000 in
set_option maxHeartbeats 2000000 in
theorem isOf_any (x0 : World) (g o : Nat) (p t : Int) (s : Int × Int × Int) (h0 : x0.cell? ⟨g, o, none⟩ = some (.int .i64 p)) (h2 : x0.cell? ⟨g, o + 2, none⟩ = some (.int .i64 t)) (hg : g < x0.heap.size) :
    Calls Try.prog 112 #[.agg #[.int .i64 s.1, .int .i64 s.2.1, .int .i64 s.2.2], .pointer (some ⟨g, o, none⟩)] x0 fun e y => e = .returned (.bool (decide (s.1 = p) && decide (s.2.1 = t))) ∧ Below x0.heap.size x0 y := by
  obtain ⟨a, b, c⟩ := s
  dsimp only
  have hg1 : g < x0.heap.size + 1 := by omega
  by_cases h3 : a = p
  · subst h3
    have HAl : Hid (Below x0.heap.size x0 (x0.alloc (.cells #[.int .i64 a, .int .i64 b, .int .i64 c] 54))) := (Below.refl _ _).alloc (Nat.le_refl _) _
    by_cases h4 : b = t
    · subst h4
      go_enter Try.func112, Try.ntmps112
      go_wp2_with fail
      go_quiet (fail)
      go_wp2_with fail
      go_ret
      exact ⟨retBool (by simp), HAl.out.trans ((belowN _ _).mono HAl.out.size)⟩
    · have h4' : (b == t) = false := by simpa using h4
      go_enter Try.func112, Try.ntmps112
      go_wp2_with fail
      go_quiet (fail)
      go_wp2_with fail
      go_ret
      exact ⟨retBool (by simp [h4]), HAl.out.trans ((belowN _ _).mono HAl.out.size)⟩
  · have h3' : (a == p) = false := by simpa using h3
    have HAl : Hid (Below x0.heap.size x0 (x0.alloc (.cells #[.int .i64 a, .int .i64 b, .int .i64 c] 54))) := (Below.refl _ _).alloc (Nat.le_refl _) _
    go_enter Try.func112, Try.ntmps112
    go_wp2_with fail
    go_quiet (fail)
    go_wp2_with fail
    go_ret
    exact ⟨retBool (by simp [h3]), HAl.out.trans ((belowN _ _).mono HAl.out.size)⟩

end Go.Proofs.Ytifpijindmdboaa
