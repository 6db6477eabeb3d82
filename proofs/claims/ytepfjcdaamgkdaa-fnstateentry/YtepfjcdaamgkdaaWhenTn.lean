/-
  The contract of the model's SpanWhen: asked whether one is less.
-/
import Derived.Test.YtepfjcdaamgkdaaWhenT
namespace Go.Proofs.Ytepfjcdaamgkdaa
open Go.RowKit
set_option linter.unusedVariables false
set_option linter.unusedSimpArgs false

end Go.Proofs.Ytepfjcdaamgkdaa
