/-
  Both SpanDo, and both SpanWhen, answer one span, or two, whatever the world: what these are is said beside it.
-/
import Derived.Test.YtlnfjjciilieeaaMoreM
import Derived.Test.YtlnfjjciilieeaaDoL
import Derived.Test.YtlnfjjciilieeaaWhenE
import Derived.Test.YtlnfjjciilieeaaInv
namespace Go.Proofs.Ytlnfjjciilieeaa
open Go.RowKit
set_option linter.unusedVariables false
set_option linter.unusedSimpArgs false

theorem do_fix (op : Int) (a : Bool) (al ah : Int) (b : Bool) (bl bh : Int) : ∃ j1 j2 j3, Hid (DoIs op a al ah b bl bh (j1, j2, j3)) ∧ Hid (∀ x : World, Calls Try.prog 27 #[.int .i64 op, .agg #[.bool a, .int .i64 al, .int .i64 ah], .agg #[.bool b, .int .i64 bl, .int .i64 bh]] x fun e w' => e = .returned (.agg #[.bool j1, .int .i64 j2, .int .i64 j3]) ∧ Below x.heap.size x w') ∧ Hid (∀ x : World, Calls Try.prog 26 #[.int .i64 op, .agg #[.bool a, .int .i64 al, .int .i64 ah], .agg #[.bool b, .int .i64 bl, .int .i64 bh]] x fun e w' => e = .returned (.agg #[.bool j1, .int .i64 j2, .int .i64 j3]) ∧ Below x.heap.size x w') := by
  obtain ⟨s, hs⟩ := do_ex op a al ah b bl bh
  refine ⟨s.1, s.2.1, s.2.2, hs, fun x => (doSp_spec op a al ah b bl bh x).mono ?_, fun x => (doSp_impl op a al ah b bl bh x).mono ?_⟩
  · rintro e w' ⟨s', ht, he, hb⟩; obtain rfl := hs.uniq ht; exact ⟨he, hb⟩
  · rintro e w' ⟨s', ht, he, hb⟩; obtain rfl := hs.uniq ht; exact ⟨he, hb⟩

theorem when_fix (op : Int) (a : Bool) (al ah : Int) (b : Bool) (bl bh : Int) (yes : Bool) : ∃ j1 j2 j3 i1 i2 i3, Hid (WhenIs op a al ah b bl bh yes (j1, j2, j3) (i1, i2, i3)) ∧ Hid (∀ x : World, Calls Try.prog 11 #[.int .i64 op, .agg #[.bool a, .int .i64 al, .int .i64 ah], .agg #[.bool b, .int .i64 bl, .int .i64 bh], .bool yes] x fun e w' => e = .returned (.tuple #[.agg #[.bool j1, .int .i64 j2, .int .i64 j3], .agg #[.bool i1, .int .i64 i2, .int .i64 i3]]) ∧ Below x.heap.size x w') ∧ Hid (∀ x : World, Calls Try.prog 13 #[.int .i64 op, .agg #[.bool a, .int .i64 al, .int .i64 ah], .agg #[.bool b, .int .i64 bl, .int .i64 bh], .bool yes] x fun e w' => e = .returned (.tuple #[.agg #[.bool j1, .int .i64 j2, .int .i64 j3], .agg #[.bool i1, .int .i64 i2, .int .i64 i3]]) ∧ Below x.heap.size x w') := by
  obtain ⟨s, t, hs⟩ := when_ex op a al ah b bl bh yes
  refine ⟨s.1, s.2.1, s.2.2, t.1, t.2.1, t.2.2, hs, fun x => (when_spec op a al ah b bl bh yes x).mono ?_, fun x => (when_impl op a al ah b bl bh yes x).mono ?_⟩
  · rintro e w' ⟨s', t', ht, he, hb⟩; obtain ⟨rfl, rfl⟩ := hs.uniq ht; exact ⟨he, hb⟩
  · rintro e w' ⟨s', t', ht, he, hb⟩; obtain ⟨rfl, rfl⟩ := hs.uniq ht; exact ⟨he, hb⟩

/-- calls whose answer has a name -/
theorem join_at {a b p : Bool} {al ah bl bh pl ph : Int} (h : joinF a al ah b bl bh = (p, pl, ph)) (w : World) : Calls Try.prog 16 #[.agg #[.bool a, .int .i64 al, .int .i64 ah], .agg #[.bool b, .int .i64 bl, .int .i64 bh]] w fun e w' => e = .returned (.agg #[.bool p, .int .i64 pl, .int .i64 ph]) ∧ Below w.heap.size w w' :=
  (join_impl a al ah b bl bh w).mono fun e w' ⟨h1, h2⟩ => ⟨by rw [h] at h1; exact h1, h2⟩
theorem ok_at {a o : Bool} {l u : Int} (h : okF a l u = o) (w : World) : Calls Try.prog 18 #[.agg #[.bool a, .int .i64 l, .int .i64 u]] w fun e w' => e = .returned (.bool o) ∧ Below w.heap.size w w' :=
  (ok_spec a l u w).mono fun e w' ⟨h1, h2⟩ => ⟨by rw [h] at h1; exact h1, h2⟩
theorem in_at {a b o : Bool} {al ah bl bh : Int} (h : inF a al ah b bl bh = o) (w : World) : Calls Try.prog 30 #[.agg #[.bool a, .int .i64 al, .int .i64 ah], .agg #[.bool b, .int .i64 bl, .int .i64 bh]] w fun e w' => e = .returned (.bool o) ∧ Below w.heap.size w w' :=
  (in_impl a al ah b bl bh w).mono fun e w' ⟨h1, h2⟩ => ⟨by rw [h] at h1; exact h1, h2⟩
end Go.Proofs.Ytlnfjjciilieeaa
