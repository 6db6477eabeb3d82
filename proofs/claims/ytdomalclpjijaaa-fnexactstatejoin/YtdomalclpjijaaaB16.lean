import Derived.Test.YtdomalclpjijaaaB15
/-
  The contract of the model's SpanWhen: asked whether one is less.
-/
namespace Go.Proofs.Ytdomalclpjijaaa
open Go.RowKit
set_option linter.unusedVariables false
set_option linter.unusedSimpArgs false

end Go.Proofs.Ytdomalclpjijaaa

/-
  The contract of the model's SpanWhen: asked whether one is less.
-/
namespace Go.Proofs.Ytdomalclpjijaaa
open Go.RowKit
set_option linter.unusedVariables false
set_option linter.unusedSimpArgs false

end Go.Proofs.Ytdomalclpjijaaa
