import Derived.Test.YtdomalclpjijaaaB18
import Derived.Test.YtdomalclpjijaaaB19
import Derived.Test.YtdomalclpjijaaaB11
import Derived.Test.YtdomalclpjijaaaB16
import Derived.Test.YtdomalclpjijaaaB7
/-
  Both SpanWhen answer the same at every op, every two spans, yes and no.
-/
namespace Go.Proofs.Ytdomalclpjijaaa
open Go.RowKit
set_option linter.unusedVariables false
set_option linter.unusedSimpArgs false

theorem when_out {op : Int} {a b : Bool} {al ah bl bh : Int} {yes : Bool} (h : bothF a al ah b bl bh = false ∨ (op ≠ 5 ∧ op ≠ 6)) : WhenIs op a al ah b bl bh yes noSp noSp := by
  refine ⟨fun _ => ⟨rfl, rfl⟩, fun h1 h2 => ?_⟩
  rcases h with h | h
  · simp [h1] at h
  · omega

end Go.Proofs.Ytdomalclpjijaaa

/-
  Both SpanDo, and both SpanWhen, answer one span, or two, whatever the world: what these are is said beside it.
-/
namespace Go.Proofs.Ytdomalclpjijaaa
open Go.RowKit
set_option linter.unusedVariables false
set_option linter.unusedSimpArgs false

/-- calls whose answer has a name -/
theorem join_at {a b p : Bool} {al ah bl bh pl ph : Int} (h : joinF a al ah b bl bh = (p, pl, ph)) (w : World) : Calls Try.prog 35 #[.agg #[.bool a, .int .i64 al, .int .i64 ah], .agg #[.bool b, .int .i64 bl, .int .i64 bh]] w fun e w' => e = .returned (.agg #[.bool p, .int .i64 pl, .int .i64 ph]) ∧ Below w.heap.size w w' :=
  (join_impl a al ah b bl bh w).mono fun e w' ⟨h1, h2⟩ => ⟨by rw [h] at h1; exact h1, h2⟩
theorem ok_at {a o : Bool} {l u : Int} (h : okF a l u = o) (w : World) : Calls Try.prog 65 #[.agg #[.bool a, .int .i64 l, .int .i64 u]] w fun e w' => e = .returned (.bool o) ∧ Below w.heap.size w w' :=
  (ok_spec a l u w).mono fun e w' ⟨h1, h2⟩ => ⟨by rw [h] at h1; exact h1, h2⟩
theorem in_at {a b o : Bool} {al ah bl bh : Int} (h : inF a al ah b bl bh = o) (w : World) : Calls Try.prog 50 #[.agg #[.bool a, .int .i64 al, .int .i64 ah], .agg #[.bool b, .int .i64 bl, .int .i64 bh]] w fun e w' => e = .returned (.bool o) ∧ Below w.heap.size w w' :=
  (in_impl a al ah b bl bh w).mono fun e w' ⟨h1, h2⟩ => ⟨by rw [h] at h1; exact h1, h2⟩
end Go.Proofs.Ytdomalclpjijaaa
