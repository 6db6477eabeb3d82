import Derived.Test.YtdomalclpjijaaaB14
/-
  The contract of the program's SpanWhen where it is asked whether one is less, of two spans that are not none.
-/
namespace Go.Proofs.Ytdomalclpjijaaa
open Go.RowKit
set_option linter.unusedVariables false
set_option linter.unusedSimpArgs false
attribute [local go_sem ↓] Go.wp_at_zero Go.wp_at_succ

end Go.Proofs.Ytdomalclpjijaaa

/-
  The contract of the program's SpanWhen where it is asked whether one is same, of two spans that are not none.
-/
namespace Go.Proofs.Ytdomalclpjijaaa
open Go.RowKit
set_option linter.unusedVariables false
set_option linter.unusedSimpArgs false
attribute [local go_sem ↓] Go.wp_at_zero Go.wp_at_succ

end Go.Proofs.Ytdomalclpjijaaa
