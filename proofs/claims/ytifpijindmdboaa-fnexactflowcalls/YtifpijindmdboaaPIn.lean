/-
  Whether an instruction is ok, as the program says it: of every kind.
-/
import Derived.Test.YtifpijindmdboaaPInA
import Derived.Test.YtifpijindmdboaaPInB
import Derived.Test.YtifpijindmdboaaPInC
namespace Go.Proofs.Ytifpijindmdboaa
open Go.RowKit
set_option linter.unusedVariables false
set_option linter.unusedSimpArgs false

theorem insOk_any (i : I4) (p q : Int) (w : World) : Calls Try.prog 97 #[aggI i, .agg #[.int .i64 p, .int .i64 q]] w fun e w' => e = .returned (.bool (insOkF i q p)) ∧ Below w.heap.size w w' := by
  by_cases hK : 1 ≤ i.1 ∧ i.1 ≤ 12
  · rw [← fits_ok i p q hK.1 hK.2]
    obtain ⟨K, a, b, c⟩ := i
    simp only at hK
    obtain rfl | rfl | rfl | rfl | rfl | rfl | rfl | rfl | rfl | rfl | rfl | rfl : K = 1 ∨ K = 2 ∨ K = 3 ∨ K = 4 ∨ K = 5 ∨ K = 6 ∨ K = 7 ∨ K = 8 ∨ K = 9 ∨ K = 10 ∨ K = 11 ∨ K = 12 := by omega
    · exact insOk_set a b c p q w
    · exact insOk_move a b c p q w
    · exact insOk_ask a b c p q w
    · exact insOk_do a b c p q w
    · exact insOk_go a b c p q w
    · exact insOk_less a b c p q w
    · exact insOk_same a b c p q w
    · exact insOk_call a b c p q w
    · exact insOk_back a b c p q w
    · exact insOk_hold a b c p q w
    · exact insOk_put a b c p q w
    · exact insOk_get a b c p q w
  · obtain ⟨K, a, b, c⟩ := i
    have n0 : ∀ m : Int, 1 ≤ m → m ≤ 12 → ¬ K = m := fun m h1 h2 h3 => hK ⟨by simp only; omega, by simp only; omega⟩
    have hr : insOkF (K, a, b, c) q p = false := by
      simp [insOkF, n0 1 (by omega) (by omega), n0 2 (by omega) (by omega), n0 3 (by omega) (by omega), n0 4 (by omega) (by omega), n0 5 (by omega) (by omega), n0 6 (by omega) (by omega), n0 7 (by omega) (by omega), n0 8 (by omega) (by omega), n0 9 (by omega) (by omega), n0 10 (by omega) (by omega), n0 11 (by omega) (by omega), n0 12 (by omega) (by omega)]
    rw [hr]
    refine insOk_nil K a b c p q w ?_
    simp only [ifcF, n0 1 (by omega) (by omega), n0 2 (by omega) (by omega), n0 3 (by omega) (by omega), n0 4 (by omega) (by omega), n0 5 (by omega) (by omega), n0 6 (by omega) (by omega), n0 7 (by omega) (by omega), n0 8 (by omega) (by omega), n0 9 (by omega) (by omega), n0 10 (by omega) (by omega), n0 11 (by omega) (by omega), n0 12 (by omega) (by omega), if_false]

end Go.Proofs.Ytifpijindmdboaa
