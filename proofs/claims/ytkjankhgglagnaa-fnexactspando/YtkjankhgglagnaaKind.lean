/-
  The contracts of KindSpan, the program's and the model's.
-/
import Derived.Test.YtkjankhgglagnaaStr
namespace Go.Proofs.Ytkjankhgglagnaa
open Go.RowKit
set_option linter.unusedVariables false
set_option linter.unusedSimpArgs false

end Go.Proofs.Ytkjankhgglagnaa
