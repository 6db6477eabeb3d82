/-
  The contract of the model's SpanDo.
-/
import Derived.Test.YtbmjjmbimfdkoaaEnds
import Derived.Test.YtbmjjmbimfdkoaaMeet
import Derived.Test.YtbmjjmbimfdkoaaNumB
namespace Go.Proofs.Ytbmjjmbimfdkoaa
open Go.RowKit
set_option linter.unusedVariables false
set_option linter.unusedSimpArgs false

theorem same_far {al ah bl bh : Int} (h : min ah bh < max al bl) : sameSp al ah bl bh = mkF 0 0 := by
  unfold sameSp; rw [mk_no h]; simp [mkF]
theorem same_one {al ah bl bh : Int} (h : ¬ min ah bh < max al bl) (e : al = bl ∧ ah = bh ∧ al = ah) : sameSp al ah bl bh = mkF 1 1 := by
  unfold sameSp; rw [mk_yes (by omega), if_neg (by simp), if_pos e]; simp [mkF]
theorem same_two {al ah bl bh : Int} (h : ¬ min ah bh < max al bl) (e : ¬ (al = bl ∧ ah = bh ∧ al = ah)) : sameSp al ah bl bh = mkF 0 1 := by
  unfold sameSp; rw [mk_yes (by omega), if_neg (by simp), if_neg e]; simp [mkF]

end Go.Proofs.Ytbmjjmbimfdkoaa
