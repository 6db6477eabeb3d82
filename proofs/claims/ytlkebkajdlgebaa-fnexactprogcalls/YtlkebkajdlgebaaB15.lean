import Derived.Test.YtlkebkajdlgebaaB14
import Derived.Test.YtlkebkajdlgebaaB1
import Derived.WalkLawsBesides
import Derived.WalkSpells
import Derived.Deep.QuietTactic
import Derived.BigQuiet
import Derived.OwnWalk
import Derived.Deep.RegionHeld3
import Derived.Deep.DeepCutAuto
/-
  States in memory: what a slice of spans and a state read as; the contracts of the laws' own helpers that measure (szState) and copy one (toState).
-/
namespace Go.Proofs.Ytlkebkajdlgebaa
open Go.RowKit
set_option linter.unusedVariables false
set_option linter.unusedSimpArgs false


def aggS (s : Sp) : Value := .agg #[.bool s.1, .int .i64 s.2.1, .int .i64 s.2.2]
/-- the three cells of a span -/
structure Spn (x : World) (g o : Nat) (s : Sp) : Prop where
  c0 : x.cell? ⟨g, o, none⟩ = some (.bool s.1)
  c1 : x.cell? ⟨g, o + 1, none⟩ = some (.int .i64 s.2.1)
  c2 : x.cell? ⟨g, o + 2, none⟩ = some (.int .i64 s.2.2)
/-- the slice value v reads as the spans L, in a block from B on and ahead of E; nothing of it is frozen, if z -/
def SpsAt (z : Bool) (x : World) (B E : Nat) (v : Value) (L : List Sp) : Prop :=
  ∃ p cap, v = .slice p L.length cap ∧ L.length ≤ maxLen ∧ (L.length = 0 ∨ ∃ g o, p = some ⟨g, o, none⟩ ∧ B ≤ g ∧ g < E ∧ E ≤ x.heap.size ∧ (z = true → ∀ k, x.frozen? ⟨g, k, none⟩ = false) ∧ ∀ j, j < L.length → Spn x g (o + j * 3) (L.getD j noSp))
theorem Spn.later {x y : World} {g o : Nat} {s : Sp} (h : Spn x g o s) (hb : Below x.heap.size x y) (hg : g < x.heap.size) : Spn y g o s :=
  ⟨(hb.cell (p := ⟨g, _, none⟩) hg).trans h.c0, (hb.cell (p := ⟨g, _, none⟩) hg).trans h.c1, (hb.cell (p := ⟨g, _, none⟩) hg).trans h.c2⟩
/-- what stands outside of what has changed still reads so -/
theorem SpsAt.stay {z : Bool} {x y : World} {B E : Nat} {v : Value} {L : List Sp} (h : SpsAt z x B E v L) (hs : x.heap.size ≤ y.heap.size) (hc : ∀ g o, B ≤ g → g < E → y.cell? ⟨g, o, none⟩ = x.cell? ⟨g, o, none⟩ ∧ y.frozen? ⟨g, o, none⟩ = x.frozen? ⟨g, o, none⟩) : SpsAt z y B E v L := by
  obtain ⟨p, cap, hv, hm, hq⟩ := h
  refine ⟨p, cap, hv, hm, hq.imp id ?_⟩
  rintro ⟨g, o, hp, hB, hg, hE, hf, hj⟩
  exact ⟨g, o, hp, hB, hg, by omega, fun hz k => (hc g k hB hg).2.trans (hf hz k), fun j h => ⟨(hc _ _ hB hg).1.trans (hj j h).c0, (hc _ _ hB hg).1.trans (hj j h).c1, (hc _ _ hB hg).1.trans (hj j h).c2⟩⟩
theorem SpsAt.later {z : Bool} {x y : World} {B E : Nat} {v : Value} {L : List Sp} (h : SpsAt z x B E v L) (hb : Below x.heap.size x y) : SpsAt z y B E v L := by
  obtain ⟨p, cap, hv, hm, hq⟩ := h
  refine ⟨p, cap, hv, hm, hq.imp id ?_⟩
  rintro ⟨g, o, hp, hB, hg, hE, hf, hj⟩
  exact ⟨g, o, hp, hB, hg, Nat.le_trans hE hb.size, fun hz k => (hb.frozen (p := ⟨g, k, none⟩) (by show g < _; omega)).trans (hf hz k), fun j h => (hj j h).later hb (by omega)⟩
theorem SpsAt.wide {z : Bool} {x : World} {B E C D : Nat} {v : Value} {L : List Sp} (h : SpsAt z x B E v L) (hc : C ≤ B) (hd : E ≤ D) (hx : D ≤ x.heap.size) : SpsAt z x C D v L := by
  obtain ⟨p, cap, hv, hm, hq⟩ := h
  refine ⟨p, cap, hv, hm, hq.imp id ?_⟩
  rintro ⟨g, o, hp, hB, hg, hE, hf, hj⟩
  exact ⟨g, o, hp, by omega, by omega, hx, hf, hj⟩
theorem SpsAt.weak {z : Bool} {x : World} {B E : Nat} {v : Value} {L : List Sp} (h : SpsAt z x B E v L) : SpsAt false x B E v L := by
  obtain ⟨p, cap, hv, hm, hq⟩ := h
  refine ⟨p, cap, hv, hm, hq.imp id ?_⟩
  rintro ⟨g, o, hp, hB, hg, hE, hf, hj⟩
  exact ⟨g, o, hp, hB, hg, hE, fun hz => (by cases hz), hj⟩
theorem SpsAt.off {z : Bool} {x : World} {B E : Nat} {v : Value} {L : List Sp} (h : SpsAt z x B E v L) {b o : Nat} {u : Value} (hb : b < B ∨ E ≤ b) : SpsAt z (x.setCell ⟨b, o, none⟩ u) B E v L :=
  h.stay (by simp) fun g k h1 h2 => ⟨sc_other (by intro e; injection e; omega), World.frozen?_setCell _ _ _ _⟩
theorem SpsAt.nil {z : Bool} {x : World} {B E : Nat} {p : Option Addr} {cap : Nat} : SpsAt z x B E (.slice p 0 cap) [] := ⟨p, cap, rfl, by unfold maxLen; simp, .inl rfl⟩

def set3 (x : World) (g o : Nat) (v0 v1 v2 : Value) : World := ((x.setCell ⟨g, o, none⟩ v0).setCell ⟨g, o + 1, none⟩ v1).setCell ⟨g, o + 2, none⟩ v2
theorem set3_miss (x : World) (g o : Nat) (v0 v1 v2 : Value) (b p : Nat) (h : b ≠ g ∨ p < o ∨ o + 3 ≤ p) : (set3 x g o v0 v1 v2).cell? ⟨b, p, none⟩ = x.cell? ⟨b, p, none⟩ := by
  unfold set3
  rw [sc_other (by intro e; injection e; omega), sc_other (by intro e; injection e; omega), sc_other (by intro e; injection e; omega)]
theorem set3_some (x : World) (g o : Nat) (v0 v1 v2 : Value) (a : Addr) (h : ∃ v, x.cell? a = some v) : ∃ v, (set3 x g o v0 v1 v2).cell? a = some v := by
  obtain ⟨v, h⟩ := h
  obtain ⟨v, h⟩ := cell?_setCell_some (p := ⟨g, o, none⟩) (x := v0) h
  obtain ⟨v, h⟩ := cell?_setCell_some (p := ⟨g, o + 1, none⟩) (x := v1) h
  exact cell?_setCell_some (p := ⟨g, o + 2, none⟩) (x := v2) h
theorem set3_hit (x : World) (g o : Nat) (s : Sp) (h0 : ∃ v, x.cell? ⟨g, o, none⟩ = some v) (h1 : ∃ v, x.cell? ⟨g, o + 1, none⟩ = some v) (h2 : ∃ v, x.cell? ⟨g, o + 2, none⟩ = some v) :
    Spn (set3 x g o (.bool s.1) (.int .i64 s.2.1) (.int .i64 s.2.2)) g o s := by
  obtain ⟨u0, h0⟩ := h0
  obtain ⟨u1, h1⟩ := h1
  obtain ⟨u2, h2⟩ := h2
  unfold set3
  refine ⟨?_, ?_, ?_⟩
  · rw [sc_other (by intro e; injection e; omega), sc_other (by intro e; injection e; omega), sc_same h0]
  · rw [sc_other (by intro e; injection e; omega), sc_same ((sc_other (by intro e; injection e; omega)).trans h1)]
  · rw [sc_same ((sc_other (by intro e; injection e; omega)).trans ((sc_other (by intro e; injection e; omega)).trans h2))]
theorem set3_frozen (x : World) (g o : Nat) (v0 v1 v2 : Value) (a : Addr) : (set3 x g o v0 v1 v2).frozen? a = x.frozen? a := by unfold set3; simp
theorem set3_below {B : Nat} {w x : World} {g o : Nat} {v0 v1 v2 : Value} (h : Below B w x) (hg : B ≤ g) : Below B w (set3 x g o v0 v1 v2) :=
  ((h.setCell (p := ⟨g, o, none⟩) hg _).setCell (p := ⟨g, o + 1, none⟩) hg _).setCell (p := ⟨g, o + 2, none⟩) hg _
theorem set3_size (x : World) (g o : Nat) (v0 v1 v2 : Value) : (set3 x g o v0 v1 v2).heap.size = x.heap.size := by unfold set3; simp

/-- a box of five cells, that may be stored into -/
structure Bx5 (x : World) (m : Nat) (v0 v1 v2 v3 v4 : Value) : Prop where
  lt : m < x.heap.size
  c0 : x.cell? ⟨m, 0, none⟩ = some v0
  c1 : x.cell? ⟨m, 1, none⟩ = some v1
  c2 : x.cell? ⟨m, 2, none⟩ = some v2
  c3 : x.cell? ⟨m, 3, none⟩ = some v3
  c4 : x.cell? ⟨m, 4, none⟩ = some v4
  fz : ∀ k, x.frozen? ⟨m, k, none⟩ = false
theorem Bx5.new (x : World) (v0 v1 v2 v3 v4 : Value) (t : TypeId) : Bx5 (x.alloc (.cells #[v0, v1, v2, v3, v4] t)) x.heap.size v0 v1 v2 v3 v4 :=
  ⟨by simp, by simp [go_sem], by simp [go_sem], by simp [go_sem], by simp [go_sem], by simp [go_sem], fun k => by simp [go_sem]⟩
theorem Bx5.later {x y : World} {m : Nat} {v0 v1 v2 v3 v4 : Value} (h : Bx5 x m v0 v1 v2 v3 v4) (hb : Below x.heap.size x y) : Bx5 y m v0 v1 v2 v3 v4 :=
  ⟨Nat.lt_of_lt_of_le h.lt hb.size, (hb.cell (p := ⟨m, 0, none⟩) h.lt).trans h.c0, (hb.cell (p := ⟨m, 1, none⟩) h.lt).trans h.c1, (hb.cell (p := ⟨m, 2, none⟩) h.lt).trans h.c2, (hb.cell (p := ⟨m, 3, none⟩) h.lt).trans h.c3, (hb.cell (p := ⟨m, 4, none⟩) h.lt).trans h.c4, fun k => (hb.frozen (p := ⟨m, k, none⟩) h.lt).trans (h.fz k)⟩
theorem Bx5.alloc {x : World} {m : Nat} {v0 v1 v2 v3 v4 : Value} (h : Bx5 x m v0 v1 v2 v3 v4) (o : Obj) : Bx5 (x.alloc o) m v0 v1 v2 v3 v4 := h.later ((Below.refl _ _).alloc (Nat.le_refl _) _)
theorem Bx5.off {x : World} {m : Nat} {v0 v1 v2 v3 v4 : Value} (h : Bx5 x m v0 v1 v2 v3 v4) {b o : Nat} {u : Value} (hb : b ≠ m) : Bx5 (x.setCell ⟨b, o, none⟩ u) m v0 v1 v2 v3 v4 := by
  have far : ∀ k, (x.setCell ⟨b, o, none⟩ u).cell? ⟨m, k, none⟩ = x.cell? ⟨m, k, none⟩ := fun k => sc_other (by intro e; injection e; omega)
  exact ⟨by simpa using h.lt, (far _).trans h.c0, (far _).trans h.c1, (far _).trans h.c2, (far _).trans h.c3, (far _).trans h.c4, fun k => (World.frozen?_setCell _ _ _ _).trans (h.fz k)⟩
theorem Bx5.set1 {x : World} {m : Nat} {v0 v1 v2 v3 v4 u : Value} (h : Bx5 x m v0 v1 v2 v3 v4) : Bx5 (x.setCell ⟨m, 1, none⟩ u) m v0 u v2 v3 v4 := by
  have far : ∀ k, k ≠ 1 → (x.setCell ⟨m, 1, none⟩ u).cell? ⟨m, k, none⟩ = x.cell? ⟨m, k, none⟩ := fun k hk => sc_other (by intro e; injection e; omega)
  exact ⟨by simpa using h.lt, (far _ (by omega)).trans h.c0, sc_same h.c1, (far _ (by omega)).trans h.c2, (far _ (by omega)).trans h.c3, (far _ (by omega)).trans h.c4, fun k => (World.frozen?_setCell _ _ _ _).trans (h.fz k)⟩

/-- a state: whether one comes there, the registers' spans, the cells' span -/
abbrev St := Bool × List Sp × Sp
def noSt : St := (false, [], noSp)

end Go.Proofs.Ytlkebkajdlgebaa

/-
  The contracts of StateOk, the program's and the model's.
-/
namespace Go.Proofs.Ytlkebkajdlgebaa
open Go.RowKit
set_option linter.unusedVariables false
set_option linter.unusedSimpArgs false

def someF (s : Sp) : Bool := s.1 && okF s.1 s.2.1 s.2.2
/-- whether a state is ok -/
def stOk (a : Bool) (L : List Sp) (c : Sp) : Bool := if a = true then decide (L.length = 3) && L.all someF && someF c else decide (L.length = 0) && decide (c = noSp)

theorem all_yes {L : List Sp} (f : Sp → Bool) (h : ∀ j, j < L.length → f (L.getD j noSp) = true) : L.all f = true := by
  rw [List.all_eq_true]
  intro s hs
  obtain ⟨j, hj, rfl⟩ := List.getElem_of_mem hs
  have := h j hj
  rwa [List.getD_eq_getElem?_getD, List.getElem?_eq_getElem hj] at this
theorem all_no {L : List Sp} (f : Sp → Bool) {j : Nat} (hj : j < L.length) (h : f (L.getD j noSp) = false) : L.all f = false := by
  rw [List.all_eq_false]
  refine ⟨L[j], List.getElem_mem hj, ?_⟩
  rw [List.getD_eq_getElem?_getD, List.getElem?_eq_getElem hj] at h
  simpa using h
/-- the box of a state that a call has made first of all -/
theorem box5 {x y : World} {v0 v1 v2 v3 v4 : Value} {t : TypeId} (hb : Below (x.heap.size + 1) (x.alloc (.cells #[v0, v1, v2, v3, v4] t)) y) :
    y.cell? ⟨x.heap.size, 0, none⟩ = some v0 ∧ y.cell? ⟨x.heap.size, 1, none⟩ = some v1 ∧ y.cell? ⟨x.heap.size, 2, none⟩ = some v2 ∧ y.cell? ⟨x.heap.size, 3, none⟩ = some v3 ∧ y.cell? ⟨x.heap.size, 4, none⟩ = some v4 :=
  ⟨(hb.cell (p := ⟨x.heap.size, 0, none⟩) (by simp)).trans (by simp [go_sem]), (hb.cell (p := ⟨x.heap.size, 1, none⟩) (by simp)).trans (by simp [go_sem]), (hb.cell (p := ⟨x.heap.size, 2, none⟩) (by simp)).trans (by simp [go_sem]), (hb.cell (p := ⟨x.heap.size, 3, none⟩) (by simp)).trans (by simp [go_sem]), (hb.cell (p := ⟨x.heap.size, 4, none⟩) (by simp)).trans (by simp [go_sem])⟩
theorem below_box {x y : World} {o : Obj} (hb : Below (x.heap.size + 1) (x.alloc o) y) : Below x.heap.size x y := ((Below.refl _ _).alloc (Nat.le_refl _) _).trans (hb.mono (by omega))
theorem box_go {X y z : World} {n : Nat} (h : Below n X y) (hn : n ≤ X.heap.size) (hb : Below y.heap.size y z) : Below n X z := h.trans (hb.mono (Nat.le_trans hn h.size))

end Go.Proofs.Ytlkebkajdlgebaa
