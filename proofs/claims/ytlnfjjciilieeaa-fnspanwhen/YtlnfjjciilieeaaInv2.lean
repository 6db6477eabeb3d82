/-
  A step of a region whose operation is guarded.
-/
import Derived.Test.YtlnfjjciilieeaaInv
namespace Go.Proofs.Ytlnfjjciilieeaa
open Go.RowKit
set_option linter.unusedVariables false
set_option linter.unusedSimpArgs false

/-- what an operation that has come up has left in its slot -/
def Sl (b : Bool) (s V : Value) : Prop := b = true → s = V
theorem Sl.mk {b : Bool} {s V : Value} (h : s = V) : Sl b s V := fun _ => h
theorem Sl.no {s V : Value} : Sl false s V := fun h => by cases h
theorem Sl.at_ {b : Bool} {s V : Value} (h : Sl b s V) (q : b = true) : s = V := h q

section
variable {P : Program} {ops : Array Oper} {Q : Exit → Act → World → Prop} {md : Region.Mode}
theorem wpOp_yes {i : Nat} {o : Oper} {a : Act} {w : World} {J : Act → World → Prop} (ho : ops[i]? = some o) (hw : Region.wanted o (yielded ops a.tmps) = true)
    (h : ∀ K : Act → World → Prop, (∀ a' w', J a' w' → K a' w') → o.wp P a w K Q) : wpOp P ops Q i J a w := by
  unfold wpOp
  rw [ho]
  simp only [hw, if_true]
  exact .inl (h J fun _ _ q => q)
theorem wpOp_no {i : Nat} {o : Oper} {a : Act} {w : World} {J : Act → World → Prop} (ho : ops[i]? = some o) (hw : Region.wanted o (yielded ops a.tmps) = false)
    (h : J (a.put o.dst undef) w) : wpOp P ops Q i J a w := by
  unfold wpOp
  rw [ho]
  simp only [hw]
  exact h
end
end Go.Proofs.Ytlnfjjciilieeaa
