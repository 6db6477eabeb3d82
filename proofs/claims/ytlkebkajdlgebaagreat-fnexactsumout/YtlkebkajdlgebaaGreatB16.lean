import Derived.Test.YtlkebkajdlgebaaGreatB3
import Derived.Test.YtlkebkajdlgebaaGreatB15
import Derived.Test.YtlkebkajdlgebaaGreatB13
/-
  Boxes of cells, and cells that are stored one behind the other.
-/
namespace Go.Proofs.YtlkebkajdlgebaaGreat
open Go.RowKit
set_option linter.unusedVariables false
set_option linter.unusedSimpArgs false

/-- a box whose cells are L's, that may be stored into -/
structure BxN (x : World) (m : Nat) (L : List Value) : Prop where
  lt : m < x.heap.size
  c : ∀ j v, L[j]? = some v → x.cell? ⟨m, j, none⟩ = some v
  fz : ∀ k, x.frozen? ⟨m, k, none⟩ = false
theorem BxN.later {x y : World} {m : Nat} {L : List Value} (h : BxN x m L) (hb : Below x.heap.size x y) : BxN y m L :=
  ⟨Nat.lt_of_lt_of_le h.lt hb.size, fun j v e => (hb.cell (p := ⟨m, j, none⟩) h.lt).trans (h.c j v e), fun k => (hb.frozen (p := ⟨m, k, none⟩) h.lt).trans (h.fz k)⟩
theorem BxN.off {x : World} {m : Nat} {L : List Value} (h : BxN x m L) {b o : Nat} {u : Value} (hb : b ≠ m) : BxN (x.setCell ⟨b, o, none⟩ u) m L :=
  ⟨by simpa using h.lt, fun j v e => (sc_other (by intro e; injection e; omega)).trans (h.c j v e), fun k => (World.frozen?_setCell _ _ _ _).trans (h.fz k)⟩
theorem BxN.set {x : World} {m : Nat} {L : List Value} (h : BxN x m L) (i : Nat) (hi : i < L.length) (u : Value) : BxN (x.setCell ⟨m, i, none⟩ u) m (L.set i u) := by
  refine ⟨by simpa using h.lt, fun j v e => ?_, fun k => (World.frozen?_setCell _ _ _ _).trans (h.fz k)⟩
  by_cases hij : i = j
  · subst hij
    rw [List.getElem?_set_self hi] at e
    obtain rfl := Option.some.inj e
    exact sc_same (h.c i _ (List.getElem?_eq_getElem hi))
  · rw [List.getElem?_set_ne hij] at e
    exact (sc_other (by intro e; injection e; omega)).trans (h.c j v e)
theorem BxN.new (x : World) (L : List Value) (t : TypeId) : BxN (x.alloc (.cells L.toArray t)) x.heap.size L :=
  ⟨by simp, fun j v e => by simp [go_sem, e], fun k => by simp [go_sem]⟩

theorem BxN.offH {x y : World} {m : Nat} {L : List Value} {b o : Nat} {u : Value} (h : BxN x m L) (hy : x.setCell ⟨b, o, none⟩ u = y) (hb : b ≠ m) : Hid (BxN y m L) := by subst hy; exact h.off hb
theorem BxN.setH {x y : World} {m : Nat} {L : List Value} {i : Nat} {u : Value} (h : BxN x m L) (hy : x.setCell ⟨m, i, none⟩ u = y) (hi : i < L.length) : Hid (BxN y m (L.set i u)) := by subst hy; exact h.set i hi u
theorem BxN.laterH {x y : World} {m : Nat} {L : List Value} (h : BxN x m L) (hb : Below x.heap.size x y) : Hid (BxN y m L) := h.later hb

/-- cells from o on of a block are stored, one behind the other -/
def setL (x : World) (g o : Nat) : List Value → World
  | [] => x
  | v :: L => setL (x.setCell ⟨g, o, none⟩ v) g (o + 1) L
theorem setL_miss (x : World) (g o : Nat) (L : List Value) (b p : Nat) (h : b ≠ g ∨ p < o ∨ o + L.length ≤ p) : (setL x g o L).cell? ⟨b, p, none⟩ = x.cell? ⟨b, p, none⟩ := by
  induction L generalizing x o with
  | nil => rfl
  | cons v L ih =>
    simp only [List.length_cons] at h
    rw [setL, ih _ _ (by omega), sc_other (by intro e; injection e; omega)]
theorem setL_some (x : World) (g o : Nat) (L : List Value) (a : Addr) (h : ∃ v, x.cell? a = some v) : ∃ v, (setL x g o L).cell? a = some v := by
  induction L generalizing x o with
  | nil => exact h
  | cons v L ih =>
    obtain ⟨u, h⟩ := h
    exact ih _ _ (cell?_setCell_some (p := ⟨g, o, none⟩) (x := v) h)
theorem setL_hit (x : World) (g o : Nat) (L : List Value) (h : ∀ j, j < L.length → ∃ v, x.cell? ⟨g, o + j, none⟩ = some v) (j : Nat) (v : Value) (hv : L[j]? = some v) : (setL x g o L).cell? ⟨g, o + j, none⟩ = some v := by
  induction L generalizing x o j with
  | nil => simp at hv
  | cons w L ih =>
    cases j with
    | zero =>
      obtain rfl : w = v := by simpa using hv
      obtain ⟨u, h0⟩ := h 0 (by simp)
      rw [setL, Nat.add_zero, setL_miss _ _ _ _ _ _ (by omega)]
      exact sc_same h0
    | succ j =>
      rw [setL, show o + (j + 1) = o + 1 + j by omega]
      refine ih _ _ (fun i hi => ?_) j (by simpa using hv)
      obtain ⟨u, h0⟩ := h (i + 1) (by simpa using hi)
      rw [show o + (i + 1) = o + 1 + i by omega] at h0
      exact cell?_setCell_some h0
theorem setL_frozen (x : World) (g o : Nat) (L : List Value) (a : Addr) : (setL x g o L).frozen? a = x.frozen? a := by
  induction L generalizing x o with
  | nil => rfl
  | cons v L ih => rw [setL, ih]; exact World.frozen?_setCell _ _ _ _
theorem setL_size (x : World) (g o : Nat) (L : List Value) : (setL x g o L).heap.size = x.heap.size := by
  induction L generalizing x o with
  | nil => rfl
  | cons v L ih => rw [setL, ih]; simp
theorem setL_below {B : Nat} {w x : World} {g o : Nat} (L : List Value) (h : Below B w x) (hg : B ≤ g) : Below B w (setL x g o L) := by
  induction L generalizing x o with
  | nil => exact h
  | cons v L ih => exact ih (h.setCell (p := ⟨g, o, none⟩) hg _)

end Go.Proofs.YtlkebkajdlgebaaGreat

/-
  The contracts of the laws' own helpers that copy a run: toFrame, toFrameS, toRun.
-/
namespace Go.Proofs.YtlkebkajdlgebaaGreat
open Go.RowKit
set_option linter.unusedVariables false
set_option linter.unusedSimpArgs false

/-- the value of a frame -/
def aggFr (f : Fr) (u v : Value) : Value := .agg #[.int .i64 f.p, .int .i64 f.a, .int .i64 f.t, u, v, .int .i64 f.i]

/-- the six cells of a frame whose lists lie in blocks from B on -/
structure FrD (x : World) (B g o : Nat) (f : Fr) : Prop where
  c0 : x.cell? ⟨g, o, none⟩ = some (.int .i64 f.p)
  c1 : x.cell? ⟨g, o + 1, none⟩ = some (.int .i64 f.a)
  c2 : x.cell? ⟨g, o + 2, none⟩ = some (.int .i64 f.t)
  c3 : ∃ u, x.cell? ⟨g, o + 3, none⟩ = some u ∧ IntsAt true x B x.heap.size u f.r
  c4 : ∃ u, x.cell? ⟨g, o + 4, none⟩ = some u ∧ IntsAt true x B x.heap.size u f.c
  c5 : x.cell? ⟨g, o + 5, none⟩ = some (.int .i64 f.i)
theorem FrD.frc {x : World} {B g o : Nat} {f : Fr} (h : FrD x B g o f) : FrC x g o f := by
  obtain ⟨c0, c1, c2, ⟨u3, c3, i3⟩, ⟨u4, c4, i4⟩, c5⟩ := h
  exact ⟨c0, c1, c2, ⟨u3, c3, i3.any⟩, ⟨u4, c4, i4.any⟩, c5⟩
theorem FrD.later {x y : World} {B g o : Nat} {f : Fr} (h : FrD x B g o f) (hb : Below x.heap.size x y) (hg : g < x.heap.size) : FrD y B g o f := by
  obtain ⟨c0, c1, c2, ⟨u3, c3, i3⟩, ⟨u4, c4, i4⟩, c5⟩ := h
  exact ⟨(hb.cell (p := ⟨g, _, none⟩) hg).trans c0, (hb.cell (p := ⟨g, _, none⟩) hg).trans c1, (hb.cell (p := ⟨g, _, none⟩) hg).trans c2, ⟨u3, (hb.cell (p := ⟨g, _, none⟩) hg).trans c3, (i3.later hb).wide (Nat.le_refl _) hb.size (Nat.le_refl _)⟩, ⟨u4, (hb.cell (p := ⟨g, _, none⟩) hg).trans c4, (i4.later hb).wide (Nat.le_refl _) hb.size (Nat.le_refl _)⟩, (hb.cell (p := ⟨g, _, none⟩) hg).trans c5⟩
theorem IntsAt.offL {z : Bool} {x : World} {B E : Nat} {v : Value} {L : List Int} (h : IntsAt z x B E v L) {b o : Nat} {M : List Value} (hb : b < B ∨ E ≤ b) : IntsAt z (setL x b o M) B E v L :=
  h.stay (by rw [setL_size]; exact Nat.le_refl _) fun g k h1 h2 => ⟨setL_miss _ _ _ _ _ _ (by omega), setL_frozen _ _ _ _ _⟩
theorem FrD.off {x : World} {B g o : Nat} {f : Fr} (h : FrD x B g o f) {q : Nat} {M : List Value} (hB : g < B) (ho : o + 6 ≤ q ∨ q + M.length ≤ o) : FrD (setL x g q M) B g o f := by
  obtain ⟨c0, c1, c2, ⟨u3, c3, i3⟩, ⟨u4, c4, i4⟩, c5⟩ := h
  refine ⟨?_, ?_, ?_, ⟨u3, ?_, ?_⟩, ⟨u4, ?_, ?_⟩, ?_⟩
  · rw [setL_miss _ _ _ _ _ _ (by omega)]; exact c0
  · rw [setL_miss _ _ _ _ _ _ (by omega)]; exact c1
  · rw [setL_miss _ _ _ _ _ _ (by omega)]; exact c2
  · rw [setL_miss _ _ _ _ _ _ (by omega)]; exact c3
  · rw [setL_size]; exact i3.offL (by omega)
  · rw [setL_miss _ _ _ _ _ _ (by omega)]; exact c4
  · rw [setL_size]; exact i4.offL (by omega)
  · rw [setL_miss _ _ _ _ _ _ (by omega)]; exact c5

/-- new frames, in blocks from B on -/
def FrsD (x : World) (B : Nat) (v : Value) (F : List Fr) : Prop := ∃ g cap, v = .slice (some ⟨g, 0, none⟩) F.length cap ∧ F.length ≤ maxLen ∧ B ≤ g ∧ g < x.heap.size ∧ ∀ j, j < F.length → FrD x (g + 1) g (j * 6) (F.getD j fr0)
theorem FrsD.frs {x : World} {B : Nat} {v : Value} {F : List Fr} (h : FrsD x B v F) : FrsAt x v F := by
  obtain ⟨g, cap, hv, hm, hB, hg, hj⟩ := h
  exact ⟨_, cap, hv, hm, .inr ⟨g, 0, rfl, hg, fun j h => by rw [Nat.zero_add]; exact (hj j h).frc⟩⟩
theorem FrsD.later {x y : World} {B : Nat} {v : Value} {F : List Fr} (h : FrsD x B v F) (hb : Below x.heap.size x y) : FrsD y B v F := by
  obtain ⟨g, cap, hv, hm, hB, hg, hj⟩ := h
  exact ⟨g, cap, hv, hm, hB, Nat.lt_of_lt_of_le hg hb.size, fun j h => (hj j h).later hb hg⟩
theorem FrsD.lower {x : World} {B C : Nat} {v : Value} {F : List Fr} (h : FrsD x B v F) (hc : C ≤ B) : FrsD x C v F := by
  obtain ⟨g, cap, hv, hm, hB, hg, hj⟩ := h
  exact ⟨g, cap, hv, hm, by omega, hg, hj⟩
theorem FrsD.off {x : World} {B : Nat} {v : Value} {F : List Fr} (h : FrsD x B v F) {b o : Nat} {u : Value} (hb : b < B) : FrsD (x.setCell ⟨b, o, none⟩ u) B v F := by
  obtain ⟨g, cap, hv, hm, hB, hg, hj⟩ := h
  have far : ∀ k, (x.setCell ⟨b, o, none⟩ u).cell? ⟨g, k, none⟩ = x.cell? ⟨g, k, none⟩ := fun k => sc_other (by intro e; injection e; omega)
  refine ⟨g, cap, hv, hm, hB, by simpa using hg, fun j h => ?_⟩
  obtain ⟨c0, c1, c2, ⟨u3, c3, i3⟩, ⟨u4, c4, i4⟩, c5⟩ := hj j h
  exact ⟨(far _).trans c0, (far _).trans c1, (far _).trans c2, ⟨u3, (far _).trans c3, by simpa using i3.off (b := b) (o := o) (u := u) (by omega)⟩, ⟨u4, (far _).trans c4, by simpa using i4.off (b := b) (o := o) (u := u) (by omega)⟩, (far _).trans c5⟩

end Go.Proofs.YtlkebkajdlgebaaGreat

/-
  Whether a frame is ok: the contract of the program's frameOk.
-/
namespace Go.Proofs.YtlkebkajdlgebaaGreat
open Go.RowKit
set_option linter.unusedVariables false
set_option linter.unusedSimpArgs false

end Go.Proofs.YtlkebkajdlgebaaGreat
