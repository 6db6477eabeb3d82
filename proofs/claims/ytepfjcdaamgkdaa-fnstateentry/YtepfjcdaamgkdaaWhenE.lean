/-
  Both SpanWhen answer the same at every op, every two spans, yes and no.
-/
import Derived.Test.YtepfjcdaamgkdaaWhenTy
import Derived.Test.YtepfjcdaamgkdaaWhenTn
import Derived.Test.YtepfjcdaamgkdaaWhenI5
import Derived.Test.YtepfjcdaamgkdaaWhenI6
namespace Go.Proofs.Ytepfjcdaamgkdaa
open Go.RowKit
set_option linter.unusedVariables false
set_option linter.unusedSimpArgs false

theorem when_out {op : Int} {a b : Bool} {al ah bl bh : Int} {yes : Bool} (h : bothF a al ah b bl bh = false ∨ (op ≠ 5 ∧ op ≠ 6)) : WhenIs op a al ah b bl bh yes noSp noSp := by
  refine ⟨fun _ => ⟨rfl, rfl⟩, fun h1 h2 => ?_⟩
  rcases h with h | h
  · simp [h1] at h
  · omega

end Go.Proofs.Ytepfjcdaamgkdaa
