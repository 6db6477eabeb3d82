/-
  The contracts of SpanMeet, the program's and the model's.
-/
import Derived.Test.YtbmjjmbimfdkoaaJoin
namespace Go.Proofs.Ytbmjjmbimfdkoaa
open Go.RowKit
set_option linter.unusedVariables false
set_option linter.unusedSimpArgs false

theorem meet_mk {a b : Bool} {al ah bl bh x y : Int} (h : bothF a al ah b bl bh = true) (hx : x = max al bl) (hy : y = min ah bh) : meetF a al ah b bl bh = mkF x y := by
  subst hx hy
  simp [meetF, h]
theorem meet_no {a b : Bool} {al ah bl bh : Int} (h : bothF a al ah b bl bh = false) : meetF a al ah b bl bh = (false, 0, 0) := by simp [meetF, h, noSp]
theorem mk_yes {x y : Int} (h : x ≤ y) : mkF x y = (true, x, y) := by unfold mkF; rw [if_neg (by omega)]
theorem mk_no {x y : Int} (h : y < x) : mkF x y = (false, 0, 0) := by unfold mkF; rw [if_pos h]; rfl
theorem both_parts (a : Bool) (al ah : Int) (b : Bool) (bl bh : Int) : bothF a al ah b bl bh = ((a && okF a al ah) && (b && okF b bl bh)) := by
  unfold bothF; cases a <;> cases b <;> simp [Bool.and_comm]

end Go.Proofs.Ytbmjjmbimfdkoaa
