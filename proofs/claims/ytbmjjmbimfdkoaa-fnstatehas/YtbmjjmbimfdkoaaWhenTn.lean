/-
  The contract of the model's SpanWhen: asked whether one is less.
-/
import Derived.Test.YtbmjjmbimfdkoaaWhenT
namespace Go.Proofs.Ytbmjjmbimfdkoaa
open Go.RowKit
set_option linter.unusedVariables false
set_option linter.unusedSimpArgs false

end Go.Proofs.Ytbmjjmbimfdkoaa
