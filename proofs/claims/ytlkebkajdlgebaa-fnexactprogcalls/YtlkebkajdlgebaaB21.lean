import Derived.Test.YtlkebkajdlgebaaB16
/-
  The laws' marks on the spans of a state: markSpanS and markState write them all, and nothing else; heldSpanS and heldState find them where they stand.
-/
namespace Go.Proofs.Ytlkebkajdlgebaa
open Go.RowKit
set_option linter.unusedVariables false
set_option linter.unusedSimpArgs false

/-- the mark that a span gets at number k -/
def mkS (k : Int) : Sp := (k % 3 == 0, k + 1, k + 1 + 1)
/-- the marks of n spans from number k on -/
def mks (k : Int) (n : Nat) : List Sp := (List.range n).map fun (j : Nat) => mkS (k + 3 * (j : Int))
theorem mks_len (k : Int) (n : Nat) : (mks k n).length = n := by simp [mks]
theorem mks_get (k : Int) (n j : Nat) (h : j < n) : (mks k n).getD j noSp = mkS (k + 3 * j) := by
  simp [mks, List.getD, List.getElem?_map, List.getElem?_range h]
/-- nothing but blocks from B on and ahead of E has changed -/
structure Within (B E : Nat) (x y : World) : Prop where
  sz : x.heap.size = y.heap.size
  below : Below B x y
  cell : ∀ b o, b < B ∨ E ≤ b → y.cell? ⟨b, o, none⟩ = x.cell? ⟨b, o, none⟩
  frozen : ∀ b o, y.frozen? ⟨b, o, none⟩ = x.frozen? ⟨b, o, none⟩
theorem Within.refl (B E : Nat) (x : World) : Within B E x x := ⟨rfl, Below.refl _ _, fun _ _ _ => rfl, fun _ _ => rfl⟩
theorem Within.set3 {B E : Nat} {x y : World} (h : Within B E x y) {g o : Nat} (h0 : B ≤ g) (h1 : g < E) (v0 v1 v2 : Value) : Within B E x (set3 y g o v0 v1 v2) :=
  ⟨by rw [set3_size]; exact h.sz, set3_below h.below h0, fun b p hb => (set3_miss _ _ _ _ _ _ _ _ (by omega)).trans (h.cell b p hb), fun b p => (set3_frozen _ _ _ _ _ _ _).trans (h.frozen b p)⟩

end Go.Proofs.Ytlkebkajdlgebaa

/-
  Rows of structures of m numbers each: what a slice of them reads as, all numbers in one row.
-/
namespace Go.Proofs.Ytlkebkajdlgebaa
open Go.RowKit
set_option linter.unusedVariables false
set_option linter.unusedSimpArgs false

/-- the slice value v reads as n structures of m numbers each, which are N's, in a block from B on and ahead of E; nothing of it is frozen, if z -/
def IRow (m : Nat) (z : Bool) (x : World) (B E : Nat) (v : Value) (n : Nat) (N : Nat → Int) : Prop :=
  ∃ p cap, v = .slice p n cap ∧ n ≤ maxLen ∧ (n = 0 ∨ ∃ g o, p = some ⟨g, o, none⟩ ∧ B ≤ g ∧ g < E ∧ E ≤ x.heap.size ∧ (z = true → ∀ k, x.frozen? ⟨g, k, none⟩ = false) ∧ ∀ j, j < n * m → x.cell? ⟨g, o + j, none⟩ = some (.int .i64 (N j)))
theorem IRow.stay {m : Nat} {z : Bool} {x y : World} {B E : Nat} {v : Value} {n : Nat} {N : Nat → Int} (h : IRow m z x B E v n N) (hs : x.heap.size ≤ y.heap.size) (hc : ∀ g o, B ≤ g → g < E → y.cell? ⟨g, o, none⟩ = x.cell? ⟨g, o, none⟩ ∧ y.frozen? ⟨g, o, none⟩ = x.frozen? ⟨g, o, none⟩) : IRow m z y B E v n N := by
  obtain ⟨p, cap, hv, hm, hq⟩ := h
  refine ⟨p, cap, hv, hm, hq.imp id ?_⟩
  rintro ⟨g, o, hp, hB, hg, hE, hf, hj⟩
  exact ⟨g, o, hp, hB, hg, by omega, fun hz k => (hc g k hB hg).2.trans (hf hz k), fun j h => (hc _ _ hB hg).1.trans (hj j h)⟩
theorem IRow.later {m : Nat} {z : Bool} {x y : World} {B E : Nat} {v : Value} {n : Nat} {N : Nat → Int} (h : IRow m z x B E v n N) (hb : Below x.heap.size x y) : IRow m z y B E v n N := by
  obtain ⟨p, cap, hv, hm, hq⟩ := h
  refine ⟨p, cap, hv, hm, hq.imp id ?_⟩
  rintro ⟨g, o, hp, hB, hg, hE, hf, hj⟩
  exact ⟨g, o, hp, hB, hg, Nat.le_trans hE hb.size, fun hz k => (hb.frozen (p := ⟨g, k, none⟩) (by show g < _; omega)).trans (hf hz k), fun j h => (hb.cell (p := ⟨g, o + j, none⟩) (by show g < _; omega)).trans (hj j h)⟩
theorem IRow.wide {m : Nat} {z : Bool} {x : World} {B E C D : Nat} {v : Value} {n : Nat} {N : Nat → Int} (h : IRow m z x B E v n N) (hc : C ≤ B) (hd : E ≤ D) (hx : D ≤ x.heap.size) : IRow m z x C D v n N := by
  obtain ⟨p, cap, hv, hm, hq⟩ := h
  refine ⟨p, cap, hv, hm, hq.imp id ?_⟩
  rintro ⟨g, o, hp, hB, hg, hE, hf, hj⟩
  exact ⟨g, o, hp, by omega, by omega, hx, hf, hj⟩
theorem IRow.weak {m : Nat} {z : Bool} {x : World} {B E : Nat} {v : Value} {n : Nat} {N : Nat → Int} (h : IRow m z x B E v n N) : IRow m false x B E v n N := by
  obtain ⟨p, cap, hv, hm, hq⟩ := h
  refine ⟨p, cap, hv, hm, hq.imp id ?_⟩
  rintro ⟨g, o, hp, hB, hg, hE, hf, hj⟩
  exact ⟨g, o, hp, hB, hg, hE, fun h => (by cases h), hj⟩
theorem IRow.within {m : Nat} {z : Bool} {x y : World} {B E C D : Nat} {v : Value} {n : Nat} {N : Nat → Int} (h : IRow m z x C D v n N) (hw : Within B E x y) (hd : D ≤ B ∨ E ≤ C) : IRow m z y C D v n N :=
  h.stay (by rw [hw.sz]; exact Nat.le_refl _) fun g o h1 h2 => ⟨hw.cell _ _ (by omega), hw.frozen _ _⟩
theorem IRow.off {m : Nat} {z : Bool} {x : World} {B E : Nat} {v : Value} {n : Nat} {N : Nat → Int} (h : IRow m z x B E v n N) {b o : Nat} {u : Value} (hb : b < B ∨ E ≤ b) : IRow m z (x.setCell ⟨b, o, none⟩ u) B E v n N :=
  h.stay (by simp) fun g k h1 h2 => ⟨sc_other (by intro e; injection e; omega), World.frozen?_setCell _ _ _ _⟩
theorem IRow.nil {m : Nat} {z : Bool} {x : World} {B E : Nat} {p : Option Addr} {cap : Nat} {N : Nat → Int} : IRow m z x B E (.slice p 0 cap) 0 N := ⟨p, cap, rfl, by unfold maxLen; simp, .inl rfl⟩
theorem IRow.shape {m : Nat} {z : Bool} {x : World} {B E : Nat} {v : Value} {n : Nat} {N : Nat → Int} (h : IRow m z x B E v n N) : ∃ p cap, v = .slice p n cap := by
  obtain ⟨p, cap, hv, _⟩ := h
  exact ⟨p, cap, hv⟩
/-- a block is given cells; those behind cell k of it -/
def set2 (x : World) (g o : Nat) (v0 v1 : Value) : World := (x.setCell ⟨g, o, none⟩ v0).setCell ⟨g, o + 1, none⟩ v1
theorem set2_miss (x : World) (g o : Nat) (v0 v1 : Value) (b p : Nat) (h : b ≠ g ∨ p < o ∨ o + 2 ≤ p) : (set2 x g o v0 v1).cell? ⟨b, p, none⟩ = x.cell? ⟨b, p, none⟩ := by
  unfold set2
  rw [sc_other (by intro e; injection e; omega), sc_other (by intro e; injection e; omega)]
theorem set2_some (x : World) (g o : Nat) (v0 v1 : Value) (a : Addr) (h : ∃ v, x.cell? a = some v) : ∃ v, (set2 x g o v0 v1).cell? a = some v := by
  obtain ⟨v, h⟩ := h
  obtain ⟨v, h⟩ := cell?_setCell_some (p := ⟨g, o, none⟩) (x := v0) h
  exact cell?_setCell_some (p := ⟨g, o + 1, none⟩) (x := v1) h
theorem set2_hit (x : World) (g o : Nat) (v0 v1 : Value) (h0 : ∃ v, x.cell? ⟨g, o, none⟩ = some v) (h1 : ∃ v, x.cell? ⟨g, o + 1, none⟩ = some v) :
    (set2 x g o v0 v1).cell? ⟨g, o, none⟩ = some v0 ∧ (set2 x g o v0 v1).cell? ⟨g, o + 1, none⟩ = some v1 := by
  obtain ⟨u0, h0⟩ := h0
  obtain ⟨u1, h1⟩ := h1
  unfold set2
  exact ⟨by rw [sc_other (by intro e; injection e; omega), sc_same h0], by rw [sc_same ((sc_other (by intro e; injection e; omega)).trans h1)]⟩
theorem set2_frozen (x : World) (g o : Nat) (v0 v1 : Value) (a : Addr) : (set2 x g o v0 v1).frozen? a = x.frozen? a := by unfold set2; simp
theorem set2_below {B : Nat} {w x : World} {g o : Nat} {v0 v1 : Value} (h : Below B w x) (hg : B ≤ g) : Below B w (set2 x g o v0 v1) :=
  (h.setCell (p := ⟨g, o, none⟩) hg _).setCell (p := ⟨g, o + 1, none⟩) hg _
theorem set2_size (x : World) (g o : Nat) (v0 v1 : Value) : (set2 x g o v0 v1).heap.size = x.heap.size := by unfold set2; simp
theorem Within.set2 {B E : Nat} {x y : World} (h : Within B E x y) {g o : Nat} (h0 : B ≤ g) (h1 : g < E) (v0 v1 : Value) : Within B E x (set2 y g o v0 v1) :=
  ⟨by rw [set2_size]; exact h.sz, set2_below h.below h0, fun b p hb => (set2_miss _ _ _ _ _ _ _ (by omega)).trans (h.cell b p hb), fun b p => (set2_frozen _ _ _ _ _ _).trans (h.frozen b p)⟩
theorem set3_hits (x : World) (g o : Nat) (v0 v1 v2 : Value) (h0 : ∃ v, x.cell? ⟨g, o, none⟩ = some v) (h1 : ∃ v, x.cell? ⟨g, o + 1, none⟩ = some v) (h2 : ∃ v, x.cell? ⟨g, o + 2, none⟩ = some v) :
    (set3 x g o v0 v1 v2).cell? ⟨g, o, none⟩ = some v0 ∧ (set3 x g o v0 v1 v2).cell? ⟨g, o + 1, none⟩ = some v1 ∧ (set3 x g o v0 v1 v2).cell? ⟨g, o + 2, none⟩ = some v2 := by
  obtain ⟨u0, h0⟩ := h0
  obtain ⟨u1, h1⟩ := h1
  obtain ⟨u2, h2⟩ := h2
  unfold set3
  refine ⟨?_, ?_, ?_⟩
  · rw [sc_other (by intro e; injection e; omega), sc_other (by intro e; injection e; omega), sc_same h0]
  · rw [sc_other (by intro e; injection e; omega), sc_same ((sc_other (by intro e; injection e; omega)).trans h1)]
  · rw [sc_same ((sc_other (by intro e; injection e; omega)).trans ((sc_other (by intro e; injection e; omega)).trans h2))]

end Go.Proofs.Ytlkebkajdlgebaa
