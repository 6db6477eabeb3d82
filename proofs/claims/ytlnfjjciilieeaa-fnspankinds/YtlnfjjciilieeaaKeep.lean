/-
  What is held of the boxes of spans while calls are made.
-/
import Derived.Test.YtlnfjjciilieeaaStr
namespace Go.Proofs.Ytlnfjjciilieeaa
open Go.RowKit
set_option linter.unusedVariables false
set_option linter.unusedSimpArgs false

theorem keepBox {x y : World} {m : Nat} {a : Bool} {l u : Int} (h : m < x.heap.size ∧ x.cell? ⟨m, 0, none⟩ = some (.bool a) ∧ x.cell? ⟨m, 1, none⟩ = some (.int .i64 l) ∧ x.cell? ⟨m, 2, none⟩ = some (.int .i64 u)) (hb : Below x.heap.size x y) :
    m < y.heap.size ∧ y.cell? ⟨m, 0, none⟩ = some (.bool a) ∧ y.cell? ⟨m, 1, none⟩ = some (.int .i64 l) ∧ y.cell? ⟨m, 2, none⟩ = some (.int .i64 u) := by
  obtain ⟨h2, c0, c1, c2⟩ := h
  have hz := hb.size
  exact ⟨by omega, (hb.cell (p := ⟨m, 0, none⟩) h2).trans c0, (hb.cell (p := ⟨m, 1, none⟩) h2).trans c1, (hb.cell (p := ⟨m, 2, none⟩) h2).trans c2⟩
theorem newBox (x : World) (t : TypeId) (a : Bool) (l u : Int) : x.heap.size < (x.alloc (.cells #[.bool a, .int .i64 l, .int .i64 u] t)).heap.size ∧ (x.alloc (.cells #[.bool a, .int .i64 l, .int .i64 u] t)).cell? ⟨x.heap.size, 0, none⟩ = some (.bool a) ∧ (x.alloc (.cells #[.bool a, .int .i64 l, .int .i64 u] t)).cell? ⟨x.heap.size, 1, none⟩ = some (.int .i64 l) ∧ (x.alloc (.cells #[.bool a, .int .i64 l, .int .i64 u] t)).cell? ⟨x.heap.size, 2, none⟩ = some (.int .i64 u) := by
  refine ⟨by simp, by simp [go_sem], by simp [go_sem], by simp [go_sem]⟩
theorem belowAlloc (x : World) (o : Obj) : Below x.heap.size x (x.alloc o) := (Below.refl _ _).alloc (Nat.le_refl _) _
theorem spSame {s : Sp} {a b : Bool} {l u m v : Int} (h : s = (a, l, u)) (h' : s = (b, m, v)) : a = b ∧ l = m ∧ u = v := by
  have e := h.symm.trans h'
  simpa using e
theorem belowDrew (x : World) : Below x.heap.size x x.drew := (Below.refl _ _).drew
theorem keepN1 {w x y : World} {m0 : Nat} {a0 : Bool} {l0 u0 : Int} (h : Below w.heap.size w x ∧ (m0 < x.heap.size ∧ x.cell? ⟨m0, 0, none⟩ = some (.bool a0) ∧ x.cell? ⟨m0, 1, none⟩ = some (.int .i64 l0) ∧ x.cell? ⟨m0, 2, none⟩ = some (.int .i64 u0))) (hb : Below x.heap.size x y) : Below w.heap.size w y ∧ (m0 < y.heap.size ∧ y.cell? ⟨m0, 0, none⟩ = some (.bool a0) ∧ y.cell? ⟨m0, 1, none⟩ = some (.int .i64 l0) ∧ y.cell? ⟨m0, 2, none⟩ = some (.int .i64 u0)) := by
  obtain ⟨h0, b0⟩ := h
  exact ⟨h0.trans (hb.mono h0.size), keepBox b0 hb⟩
theorem keepN2 {w x y : World} {m0 m1 : Nat} {a0 a1 : Bool} {l0 u0 l1 u1 : Int} (h : Below w.heap.size w x ∧ (m0 < x.heap.size ∧ x.cell? ⟨m0, 0, none⟩ = some (.bool a0) ∧ x.cell? ⟨m0, 1, none⟩ = some (.int .i64 l0) ∧ x.cell? ⟨m0, 2, none⟩ = some (.int .i64 u0)) ∧ (m1 < x.heap.size ∧ x.cell? ⟨m1, 0, none⟩ = some (.bool a1) ∧ x.cell? ⟨m1, 1, none⟩ = some (.int .i64 l1) ∧ x.cell? ⟨m1, 2, none⟩ = some (.int .i64 u1))) (hb : Below x.heap.size x y) : Below w.heap.size w y ∧ (m0 < y.heap.size ∧ y.cell? ⟨m0, 0, none⟩ = some (.bool a0) ∧ y.cell? ⟨m0, 1, none⟩ = some (.int .i64 l0) ∧ y.cell? ⟨m0, 2, none⟩ = some (.int .i64 u0)) ∧ (m1 < y.heap.size ∧ y.cell? ⟨m1, 0, none⟩ = some (.bool a1) ∧ y.cell? ⟨m1, 1, none⟩ = some (.int .i64 l1) ∧ y.cell? ⟨m1, 2, none⟩ = some (.int .i64 u1)) := by
  obtain ⟨h0, b0, b1⟩ := h
  exact ⟨h0.trans (hb.mono h0.size), keepBox b0 hb, keepBox b1 hb⟩
theorem keepN3 {w x y : World} {m0 m1 m2 : Nat} {a0 a1 a2 : Bool} {l0 u0 l1 u1 l2 u2 : Int} (h : Below w.heap.size w x ∧ (m0 < x.heap.size ∧ x.cell? ⟨m0, 0, none⟩ = some (.bool a0) ∧ x.cell? ⟨m0, 1, none⟩ = some (.int .i64 l0) ∧ x.cell? ⟨m0, 2, none⟩ = some (.int .i64 u0)) ∧ (m1 < x.heap.size ∧ x.cell? ⟨m1, 0, none⟩ = some (.bool a1) ∧ x.cell? ⟨m1, 1, none⟩ = some (.int .i64 l1) ∧ x.cell? ⟨m1, 2, none⟩ = some (.int .i64 u1)) ∧ (m2 < x.heap.size ∧ x.cell? ⟨m2, 0, none⟩ = some (.bool a2) ∧ x.cell? ⟨m2, 1, none⟩ = some (.int .i64 l2) ∧ x.cell? ⟨m2, 2, none⟩ = some (.int .i64 u2))) (hb : Below x.heap.size x y) : Below w.heap.size w y ∧ (m0 < y.heap.size ∧ y.cell? ⟨m0, 0, none⟩ = some (.bool a0) ∧ y.cell? ⟨m0, 1, none⟩ = some (.int .i64 l0) ∧ y.cell? ⟨m0, 2, none⟩ = some (.int .i64 u0)) ∧ (m1 < y.heap.size ∧ y.cell? ⟨m1, 0, none⟩ = some (.bool a1) ∧ y.cell? ⟨m1, 1, none⟩ = some (.int .i64 l1) ∧ y.cell? ⟨m1, 2, none⟩ = some (.int .i64 u1)) ∧ (m2 < y.heap.size ∧ y.cell? ⟨m2, 0, none⟩ = some (.bool a2) ∧ y.cell? ⟨m2, 1, none⟩ = some (.int .i64 l2) ∧ y.cell? ⟨m2, 2, none⟩ = some (.int .i64 u2)) := by
  obtain ⟨h0, b0, b1, b2⟩ := h
  exact ⟨h0.trans (hb.mono h0.size), keepBox b0 hb, keepBox b1 hb, keepBox b2 hb⟩
theorem keepN4 {w x y : World} {m0 m1 m2 m3 : Nat} {a0 a1 a2 a3 : Bool} {l0 u0 l1 u1 l2 u2 l3 u3 : Int} (h : Below w.heap.size w x ∧ (m0 < x.heap.size ∧ x.cell? ⟨m0, 0, none⟩ = some (.bool a0) ∧ x.cell? ⟨m0, 1, none⟩ = some (.int .i64 l0) ∧ x.cell? ⟨m0, 2, none⟩ = some (.int .i64 u0)) ∧ (m1 < x.heap.size ∧ x.cell? ⟨m1, 0, none⟩ = some (.bool a1) ∧ x.cell? ⟨m1, 1, none⟩ = some (.int .i64 l1) ∧ x.cell? ⟨m1, 2, none⟩ = some (.int .i64 u1)) ∧ (m2 < x.heap.size ∧ x.cell? ⟨m2, 0, none⟩ = some (.bool a2) ∧ x.cell? ⟨m2, 1, none⟩ = some (.int .i64 l2) ∧ x.cell? ⟨m2, 2, none⟩ = some (.int .i64 u2)) ∧ (m3 < x.heap.size ∧ x.cell? ⟨m3, 0, none⟩ = some (.bool a3) ∧ x.cell? ⟨m3, 1, none⟩ = some (.int .i64 l3) ∧ x.cell? ⟨m3, 2, none⟩ = some (.int .i64 u3))) (hb : Below x.heap.size x y) : Below w.heap.size w y ∧ (m0 < y.heap.size ∧ y.cell? ⟨m0, 0, none⟩ = some (.bool a0) ∧ y.cell? ⟨m0, 1, none⟩ = some (.int .i64 l0) ∧ y.cell? ⟨m0, 2, none⟩ = some (.int .i64 u0)) ∧ (m1 < y.heap.size ∧ y.cell? ⟨m1, 0, none⟩ = some (.bool a1) ∧ y.cell? ⟨m1, 1, none⟩ = some (.int .i64 l1) ∧ y.cell? ⟨m1, 2, none⟩ = some (.int .i64 u1)) ∧ (m2 < y.heap.size ∧ y.cell? ⟨m2, 0, none⟩ = some (.bool a2) ∧ y.cell? ⟨m2, 1, none⟩ = some (.int .i64 l2) ∧ y.cell? ⟨m2, 2, none⟩ = some (.int .i64 u2)) ∧ (m3 < y.heap.size ∧ y.cell? ⟨m3, 0, none⟩ = some (.bool a3) ∧ y.cell? ⟨m3, 1, none⟩ = some (.int .i64 l3) ∧ y.cell? ⟨m3, 2, none⟩ = some (.int .i64 u3)) := by
  obtain ⟨h0, b0, b1, b2, b3⟩ := h
  exact ⟨h0.trans (hb.mono h0.size), keepBox b0 hb, keepBox b1 hb, keepBox b2 hb, keepBox b3 hb⟩

end Go.Proofs.Ytlnfjjciilieeaa
