import Derived.Test.YtlkebkajdlgebaaB13
/-
  The contracts of the program's stretch (at one number and at two) and SpanOf.
-/
namespace Go.Proofs.Ytlkebkajdlgebaa
open Go.RowKit
set_option linter.unusedVariables false

/-- a span with one number more -/
def addF (a : Bool) (l u n : Int) : Sp := if a = true then (true, min l n, max u n) else (true, n, n)
end Go.Proofs.Ytlkebkajdlgebaa

/-
  The contracts of SpanHas and SpanIn, the program's and the model's, and the walks of the laws FnExactSpanOk, FnExactSpanOf, FnExactSpanHas, FnExactSpanIn.
-/
namespace Go.Proofs.Ytlkebkajdlgebaa
open Go.RowKit
set_option linter.unusedVariables false

theorem cell3 {W w1 : World} (hb : Below W.heap.size W w1) (b : Nat) (h : b < W.heap.size) :
    w1.cell? ⟨b, 0, none⟩ = W.cell? ⟨b, 0, none⟩ ∧ w1.cell? ⟨b, 1, none⟩ = W.cell? ⟨b, 1, none⟩ ∧ w1.cell? ⟨b, 2, none⟩ = W.cell? ⟨b, 2, none⟩ ∧
    w1.frozen? ⟨b, 0, none⟩ = W.frozen? ⟨b, 0, none⟩ ∧ w1.frozen? ⟨b, 1, none⟩ = W.frozen? ⟨b, 1, none⟩ ∧ w1.frozen? ⟨b, 2, none⟩ = W.frozen? ⟨b, 2, none⟩ :=
  ⟨hb.cell (p := ⟨b, 0, none⟩) h, hb.cell (p := ⟨b, 1, none⟩) h, hb.cell (p := ⟨b, 2, none⟩) h, hb.frozen (p := ⟨b, 0, none⟩) h, hb.frozen (p := ⟨b, 1, none⟩) h, hb.frozen (p := ⟨b, 2, none⟩) h⟩

end Go.Proofs.Ytlkebkajdlgebaa
