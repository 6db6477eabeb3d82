/-
  A box of five cells that is read.
-/
import Derived.Test.YtbmjjmbimfdkoaaSMem
namespace Go.Proofs.Ytbmjjmbimfdkoaa
open Go.RowKit
set_option linter.unusedVariables false

structure Rd5 (x : World) (m : Nat) (v0 v1 v2 v3 v4 : Value) : Prop where
  lt : m < x.heap.size
  c0 : x.cell? ⟨m, 0, none⟩ = some v0
  c1 : x.cell? ⟨m, 1, none⟩ = some v1
  c2 : x.cell? ⟨m, 2, none⟩ = some v2
  c3 : x.cell? ⟨m, 3, none⟩ = some v3
  c4 : x.cell? ⟨m, 4, none⟩ = some v4
theorem Rd5.later {x y : World} {m : Nat} {v0 v1 v2 v3 v4 : Value} (h : Rd5 x m v0 v1 v2 v3 v4) (hb : Below x.heap.size x y) : Rd5 y m v0 v1 v2 v3 v4 :=
  ⟨Nat.lt_of_lt_of_le h.lt hb.size, (hb.cell (p := ⟨m, 0, none⟩) h.lt).trans h.c0, (hb.cell (p := ⟨m, 1, none⟩) h.lt).trans h.c1, (hb.cell (p := ⟨m, 2, none⟩) h.lt).trans h.c2, (hb.cell (p := ⟨m, 3, none⟩) h.lt).trans h.c3, (hb.cell (p := ⟨m, 4, none⟩) h.lt).trans h.c4⟩
theorem Rd5.stay {x y : World} {m : Nat} {v0 v1 v2 v3 v4 : Value} (h : Rd5 x m v0 v1 v2 v3 v4) (hs : x.heap.size ≤ y.heap.size) (hc : ∀ k, y.cell? ⟨m, k, none⟩ = x.cell? ⟨m, k, none⟩) : Rd5 y m v0 v1 v2 v3 v4 :=
  ⟨Nat.lt_of_lt_of_le h.lt hs, (hc _).trans h.c0, (hc _).trans h.c1, (hc _).trans h.c2, (hc _).trans h.c3, (hc _).trans h.c4⟩
theorem Bx5.rd {x : World} {m : Nat} {v0 v1 v2 v3 v4 : Value} (h : Bx5 x m v0 v1 v2 v3 v4) : Rd5 x m v0 v1 v2 v3 v4 := ⟨h.lt, h.c0, h.c1, h.c2, h.c3, h.c4⟩
end Go.Proofs.Ytbmjjmbimfdkoaa
