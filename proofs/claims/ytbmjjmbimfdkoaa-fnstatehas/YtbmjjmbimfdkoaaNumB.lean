/-
  The model's NumDo, and the walks of the laws FnExactNumWrap and FnExactNumDo.
-/
import Derived.Test.YtbmjjmbimfdkoaaNum
namespace Go.Proofs.Ytbmjjmbimfdkoaa
open Go.RowKit
set_option linter.unusedVariables false

theorem can_parts (op b : Int) : canF op b = (inB op 1 6 && !(op == 4 && b == 0)) := by
  rw [Bool.eq_iff_iff]; simp [canF, inB]; omega

end Go.Proofs.Ytbmjjmbimfdkoaa
