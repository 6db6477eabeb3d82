/-
  The contract of the model's SpanWhen.
-/
import Derived.Test.YtbmjjmbimfdkoaaWhenI
import Derived.Test.YtbmjjmbimfdkoaaMeet
namespace Go.Proofs.Ytbmjjmbimfdkoaa
open Go.RowKit
set_option linter.unusedVariables false
set_option linter.unusedSimpArgs false

theorem retsp_mk {lo hi lo' hi' : Int} {e : Ending} (h : RetSp (mkF lo hi) e) (h1 : lo' = lo) (h2 : hi' = hi) : RetSp (mkF lo' hi') e := by rw [h1, h2]; exact h

end Go.Proofs.Ytbmjjmbimfdkoaa
