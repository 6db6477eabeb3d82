/-
  Both SpanWhen answer the same at every op, every two spans, yes and no.
-/
import Derived.Test.YtbmjjmbimfdkoaaWhenTy
import Derived.Test.YtbmjjmbimfdkoaaWhenTn
import Derived.Test.YtbmjjmbimfdkoaaWhenI5
import Derived.Test.YtbmjjmbimfdkoaaWhenI6
namespace Go.Proofs.Ytbmjjmbimfdkoaa
open Go.RowKit
set_option linter.unusedVariables false
set_option linter.unusedSimpArgs false

theorem when_out {op : Int} {a b : Bool} {al ah bl bh : Int} {yes : Bool} (h : bothF a al ah b bl bh = false ∨ (op ≠ 5 ∧ op ≠ 6)) : WhenIs op a al ah b bl bh yes noSp noSp := by
  refine ⟨fun _ => ⟨rfl, rfl⟩, fun h1 h2 => ?_⟩
  rcases h with h | h
  · simp [h1] at h
  · omega

end Go.Proofs.Ytbmjjmbimfdkoaa
