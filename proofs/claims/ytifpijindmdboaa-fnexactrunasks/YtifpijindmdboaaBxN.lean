/-
  Boxes of cells, and cells that are stored one behind the other.
-/
import Derived.Test.YtifpijindmdboaaSMark
namespace Go.Proofs.Ytifpijindmdboaa
open Go.RowKit
set_option linter.unusedVariables false
set_option linter.unusedSimpArgs false

/-- a box whose cells are L's, that may be stored into -/
structure BxN (x : World) (m : Nat) (L : List Value) : Prop where
  lt : m < x.heap.size
  c : ∀ j v, L[j]? = some v → x.cell? ⟨m, j, none⟩ = some v
  fz : ∀ k, x.frozen? ⟨m, k, none⟩ = false
theorem BxN.later {x y : World} {m : Nat} {L : List Value} (h : BxN x m L) (hb : Below x.heap.size x y) : BxN y m L :=
  ⟨Nat.lt_of_lt_of_le h.lt hb.size, fun j v e => (hb.cell (p := ⟨m, j, none⟩) h.lt).trans (h.c j v e), fun k => (hb.frozen (p := ⟨m, k, none⟩) h.lt).trans (h.fz k)⟩
theorem BxN.off {x : World} {m : Nat} {L : List Value} (h : BxN x m L) {b o : Nat} {u : Value} (hb : b ≠ m) : BxN (x.setCell ⟨b, o, none⟩ u) m L :=
  ⟨by simpa using h.lt, fun j v e => (sc_other (by intro e; injection e; omega)).trans (h.c j v e), fun k => (World.frozen?_setCell _ _ _ _).trans (h.fz k)⟩
theorem BxN.set {x : World} {m : Nat} {L : List Value} (h : BxN x m L) (i : Nat) (hi : i < L.length) (u : Value) : BxN (x.setCell ⟨m, i, none⟩ u) m (L.set i u) := by
  refine ⟨by simpa using h.lt, fun j v e => ?_, fun k => (World.frozen?_setCell _ _ _ _).trans (h.fz k)⟩
  by_cases hij : i = j
  · subst hij
    rw [List.getElem?_set_self hi] at e
    obtain rfl := Option.some.inj e
    exact sc_same (h.c i _ (List.getElem?_eq_getElem hi))
  · rw [List.getElem?_set_ne hij] at e
    exact (sc_other (by intro e; injection e; omega)).trans (h.c j v e)
theorem BxN.new (x : World) (L : List Value) (t : TypeId) : BxN (x.alloc (.cells L.toArray t)) x.heap.size L :=
  ⟨by simp, fun j v e => by simp [go_sem, e], fun k => by simp [go_sem]⟩

theorem BxN.offH {x y : World} {m : Nat} {L : List Value} {b o : Nat} {u : Value} (h : BxN x m L) (hy : x.setCell ⟨b, o, none⟩ u = y) (hb : b ≠ m) : Hid (BxN y m L) := by subst hy; exact h.off hb
theorem BxN.setH {x y : World} {m : Nat} {L : List Value} {i : Nat} {u : Value} (h : BxN x m L) (hy : x.setCell ⟨m, i, none⟩ u = y) (hi : i < L.length) : Hid (BxN y m (L.set i u)) := by subst hy; exact h.set i hi u
theorem BxN.laterH {x y : World} {m : Nat} {L : List Value} (h : BxN x m L) (hb : Below x.heap.size x y) : Hid (BxN y m L) := h.later hb

/-- cells from o on of a block are stored, one behind the other -/
def setL (x : World) (g o : Nat) : List Value → World
  | [] => x
  | v :: L => setL (x.setCell ⟨g, o, none⟩ v) g (o + 1) L
theorem setL_miss (x : World) (g o : Nat) (L : List Value) (b p : Nat) (h : b ≠ g ∨ p < o ∨ o + L.length ≤ p) : (setL x g o L).cell? ⟨b, p, none⟩ = x.cell? ⟨b, p, none⟩ := by
  induction L generalizing x o with
  | nil => rfl
  | cons v L ih =>
    simp only [List.length_cons] at h
    rw [setL, ih _ _ (by omega), sc_other (by intro e; injection e; omega)]
theorem setL_some (x : World) (g o : Nat) (L : List Value) (a : Addr) (h : ∃ v, x.cell? a = some v) : ∃ v, (setL x g o L).cell? a = some v := by
  induction L generalizing x o with
  | nil => exact h
  | cons v L ih =>
    obtain ⟨u, h⟩ := h
    exact ih _ _ (cell?_setCell_some (p := ⟨g, o, none⟩) (x := v) h)
theorem setL_hit (x : World) (g o : Nat) (L : List Value) (h : ∀ j, j < L.length → ∃ v, x.cell? ⟨g, o + j, none⟩ = some v) (j : Nat) (v : Value) (hv : L[j]? = some v) : (setL x g o L).cell? ⟨g, o + j, none⟩ = some v := by
  induction L generalizing x o j with
  | nil => simp at hv
  | cons w L ih =>
    cases j with
    | zero =>
      obtain rfl : w = v := by simpa using hv
      obtain ⟨u, h0⟩ := h 0 (by simp)
      rw [setL, Nat.add_zero, setL_miss _ _ _ _ _ _ (by omega)]
      exact sc_same h0
    | succ j =>
      rw [setL, show o + (j + 1) = o + 1 + j by omega]
      refine ih _ _ (fun i hi => ?_) j (by simpa using hv)
      obtain ⟨u, h0⟩ := h (i + 1) (by simpa using hi)
      rw [show o + (i + 1) = o + 1 + i by omega] at h0
      exact cell?_setCell_some h0
theorem setL_frozen (x : World) (g o : Nat) (L : List Value) (a : Addr) : (setL x g o L).frozen? a = x.frozen? a := by
  induction L generalizing x o with
  | nil => rfl
  | cons v L ih => rw [setL, ih]; exact World.frozen?_setCell _ _ _ _
theorem setL_size (x : World) (g o : Nat) (L : List Value) : (setL x g o L).heap.size = x.heap.size := by
  induction L generalizing x o with
  | nil => rfl
  | cons v L ih => rw [setL, ih]; simp
theorem setL_below {B : Nat} {w x : World} {g o : Nat} (L : List Value) (h : Below B w x) (hg : B ≤ g) : Below B w (setL x g o L) := by
  induction L generalizing x o with
  | nil => exact h
  | cons v L ih => exact ih (h.setCell (p := ⟨g, o, none⟩) hg _)

end Go.Proofs.Ytifpijindmdboaa
