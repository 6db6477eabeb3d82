/-
  The contracts of the laws' own helpers on rows of numbers: the same (eqIntS), marked (markIntS), held (heldIntS).
-/
import Derived.Test.YtlnfjjciilieeaaKinds
namespace Go.Proofs.Ytlnfjjciilieeaa
open Go.RowKit
set_option linter.unusedVariables false
set_option linter.unusedSimpArgs false

theorem Owns.lower {x : World} {B C : Nat} {v : Value} {L : List Int} (h : Owns x B v L) (hc : C ≤ B) : Owns x C v L := by
  refine ⟨h.1, ?_⟩
  rcases h.2 with hn | ⟨g, cap, cur, e, hb, rest⟩
  · exact .inl hn
  · exact .inr ⟨g, cap, cur, e, Nat.le_trans hc hb, rest⟩
theorem Owns.drawn {x : World} {B : Nat} {v : Value} {L : List Int} (h : Owns x B v L) (n : Nat) : Owns (x.drewN n) B v L := by
  induction n with
  | zero => exact h
  | succ n ih => exact ih
/-- what an owned row looks like: of no number, or its cells one by one -/
theorem Owns.look {x : World} {B : Nat} {v : Value} {L : List Int} (h : Owns x B v L) :
    ∃ p cap, v = .slice p L.length cap ∧ L.length ≤ maxLen ∧ (L.length = 0 ∨ ∃ g, p = some ⟨g, 0, none⟩ ∧ B ≤ g ∧ g < x.heap.size ∧ ∀ j, j < L.length → x.cell? ⟨g, j, none⟩ = some (.int .i64 (L.getD j 0)) ∧ x.frozen? ⟨g, j, none⟩ = false) := by
  rcases h.2 with ⟨e, hn⟩ | ⟨g, cap, cur, e, hb, hg, hnc, hcm, hcs, ht⟩
  · refine ⟨none, 0, ?_, by unfold maxLen; omega, .inl hn⟩
    rw [e, hn]
  · refine ⟨_, cap, e, by omega, .inr ⟨g, rfl, hb, (Array.getElem?_eq_some_iff.1 hg).1, fun j hj => ?_⟩⟩
    subst e
    refine ⟨?_, World.ownsRow.frozenAt h j⟩
    rw [World.ownsRow.cellAt h j (by omega)]
    simp [List.getElem?_eq_getElem hj, List.getD]

end Go.Proofs.Ytlnfjjciilieeaa
