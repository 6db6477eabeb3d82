/-
  A state that a slot holds, in a region by predicates.
-/
import Derived.Test.YtbmjjmbimfdkoaaInvP
import Derived.Test.YtbmjjmbimfdkoaaSMathJ
import Derived.Test.YtbmjjmbimfdkoaaSDr
import Derived.Test.YtbmjjmbimfdkoaaSPr
namespace Go.Proofs.Ytbmjjmbimfdkoaa
open Go.RowKit
set_option linter.unusedVariables false
set_option linter.unusedSimpArgs false

def StV (r : St) (v : Value) (x : World) : Prop := ∃ (p : Option Addr) (cap B E : Nat), v = .agg #[.bool r.1, .slice p r.2.1.length cap, .bool r.2.2.1, .int .i64 r.2.2.2.1, .int .i64 r.2.2.2.2] ∧ SpsAt true x B E (.slice p r.2.1.length cap) r.2.1
theorem StV.later {r : St} {v : Value} {x y : World} (h : StV r v x) (hb : Below x.heap.size x y) : StV r v y := by
  obtain ⟨p, cap, B, E, e, hs⟩ := h
  exact ⟨p, cap, B, E, e, hs.later hb⟩
theorem stV_of {r r' : St} {x : World} {e : Ending} {y : World} (h : StAt r x e y) (hr : r = r') : ∃ v, e = .returned v ∧ StV r' v y ∧ Below x.heap.size x y := by
  subst hr
  obtain ⟨v, he, hs, hb⟩ := h
  obtain ⟨p, cap, rfl⟩ := hs.shape
  exact ⟨_, he, ⟨p, cap, _, _, rfl, hs⟩, hb⟩
end Go.Proofs.Ytbmjjmbimfdkoaa
