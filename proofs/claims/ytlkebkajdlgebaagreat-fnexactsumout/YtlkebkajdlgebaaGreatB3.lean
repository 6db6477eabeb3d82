import Derived.Test.YtlkebkajdlgebaaGreatB2
import Derived.WalkLawsBesides
import Derived.WalkSpells
import Derived.Deep.QuietTactic
import Derived.BigQuiet
import Derived.OwnWalk
import Derived.Deep.RegionHeld3
import Derived.Deep.DeepCutAuto
/-
  States in memory: what a slice of spans and a state read as; the contracts of the laws' own helpers that measure (szState) and copy one (toState).
-/
namespace Go.Proofs.YtlkebkajdlgebaaGreat
open Go.RowKit
set_option linter.unusedVariables false
set_option linter.unusedSimpArgs false


def aggS (s : Sp) : Value := .agg #[.bool s.1, .int .i64 s.2.1, .int .i64 s.2.2]
/-- the three cells of a span -/
structure Spn (x : World) (g o : Nat) (s : Sp) : Prop where
  c0 : x.cell? ⟨g, o, none⟩ = some (.bool s.1)
  c1 : x.cell? ⟨g, o + 1, none⟩ = some (.int .i64 s.2.1)
  c2 : x.cell? ⟨g, o + 2, none⟩ = some (.int .i64 s.2.2)
/-- the slice value v reads as the spans L, in a block from B on and ahead of E; nothing of it is frozen, if z -/
def SpsAt (z : Bool) (x : World) (B E : Nat) (v : Value) (L : List Sp) : Prop :=
  ∃ p cap, v = .slice p L.length cap ∧ L.length ≤ maxLen ∧ (L.length = 0 ∨ ∃ g o, p = some ⟨g, o, none⟩ ∧ B ≤ g ∧ g < E ∧ E ≤ x.heap.size ∧ (z = true → ∀ k, x.frozen? ⟨g, k, none⟩ = false) ∧ ∀ j, j < L.length → Spn x g (o + j * 3) (L.getD j noSp))
theorem Spn.later {x y : World} {g o : Nat} {s : Sp} (h : Spn x g o s) (hb : Below x.heap.size x y) (hg : g < x.heap.size) : Spn y g o s :=
  ⟨(hb.cell (p := ⟨g, _, none⟩) hg).trans h.c0, (hb.cell (p := ⟨g, _, none⟩) hg).trans h.c1, (hb.cell (p := ⟨g, _, none⟩) hg).trans h.c2⟩
/-- what stands outside of what has changed still reads so -/
theorem SpsAt.stay {z : Bool} {x y : World} {B E : Nat} {v : Value} {L : List Sp} (h : SpsAt z x B E v L) (hs : x.heap.size ≤ y.heap.size) (hc : ∀ g o, B ≤ g → g < E → y.cell? ⟨g, o, none⟩ = x.cell? ⟨g, o, none⟩ ∧ y.frozen? ⟨g, o, none⟩ = x.frozen? ⟨g, o, none⟩) : SpsAt z y B E v L := by
  obtain ⟨p, cap, hv, hm, hq⟩ := h
  refine ⟨p, cap, hv, hm, hq.imp id ?_⟩
  rintro ⟨g, o, hp, hB, hg, hE, hf, hj⟩
  exact ⟨g, o, hp, hB, hg, by omega, fun hz k => (hc g k hB hg).2.trans (hf hz k), fun j h => ⟨(hc _ _ hB hg).1.trans (hj j h).c0, (hc _ _ hB hg).1.trans (hj j h).c1, (hc _ _ hB hg).1.trans (hj j h).c2⟩⟩
theorem SpsAt.later {z : Bool} {x y : World} {B E : Nat} {v : Value} {L : List Sp} (h : SpsAt z x B E v L) (hb : Below x.heap.size x y) : SpsAt z y B E v L := by
  obtain ⟨p, cap, hv, hm, hq⟩ := h
  refine ⟨p, cap, hv, hm, hq.imp id ?_⟩
  rintro ⟨g, o, hp, hB, hg, hE, hf, hj⟩
  exact ⟨g, o, hp, hB, hg, Nat.le_trans hE hb.size, fun hz k => (hb.frozen (p := ⟨g, k, none⟩) (by show g < _; omega)).trans (hf hz k), fun j h => (hj j h).later hb (by omega)⟩
theorem SpsAt.wide {z : Bool} {x : World} {B E C D : Nat} {v : Value} {L : List Sp} (h : SpsAt z x B E v L) (hc : C ≤ B) (hd : E ≤ D) (hx : D ≤ x.heap.size) : SpsAt z x C D v L := by
  obtain ⟨p, cap, hv, hm, hq⟩ := h
  refine ⟨p, cap, hv, hm, hq.imp id ?_⟩
  rintro ⟨g, o, hp, hB, hg, hE, hf, hj⟩
  exact ⟨g, o, hp, by omega, by omega, hx, hf, hj⟩
theorem SpsAt.weak {z : Bool} {x : World} {B E : Nat} {v : Value} {L : List Sp} (h : SpsAt z x B E v L) : SpsAt false x B E v L := by
  obtain ⟨p, cap, hv, hm, hq⟩ := h
  refine ⟨p, cap, hv, hm, hq.imp id ?_⟩
  rintro ⟨g, o, hp, hB, hg, hE, hf, hj⟩
  exact ⟨g, o, hp, hB, hg, hE, fun hz => (by cases hz), hj⟩
theorem SpsAt.off {z : Bool} {x : World} {B E : Nat} {v : Value} {L : List Sp} (h : SpsAt z x B E v L) {b o : Nat} {u : Value} (hb : b < B ∨ E ≤ b) : SpsAt z (x.setCell ⟨b, o, none⟩ u) B E v L :=
  h.stay (by simp) fun g k h1 h2 => ⟨sc_other (by intro e; injection e; omega), World.frozen?_setCell _ _ _ _⟩
theorem SpsAt.nil {z : Bool} {x : World} {B E : Nat} {p : Option Addr} {cap : Nat} : SpsAt z x B E (.slice p 0 cap) [] := ⟨p, cap, rfl, by unfold maxLen; simp, .inl rfl⟩

def set3 (x : World) (g o : Nat) (v0 v1 v2 : Value) : World := ((x.setCell ⟨g, o, none⟩ v0).setCell ⟨g, o + 1, none⟩ v1).setCell ⟨g, o + 2, none⟩ v2
theorem set3_miss (x : World) (g o : Nat) (v0 v1 v2 : Value) (b p : Nat) (h : b ≠ g ∨ p < o ∨ o + 3 ≤ p) : (set3 x g o v0 v1 v2).cell? ⟨b, p, none⟩ = x.cell? ⟨b, p, none⟩ := by
  unfold set3
  rw [sc_other (by intro e; injection e; omega), sc_other (by intro e; injection e; omega), sc_other (by intro e; injection e; omega)]
theorem set3_some (x : World) (g o : Nat) (v0 v1 v2 : Value) (a : Addr) (h : ∃ v, x.cell? a = some v) : ∃ v, (set3 x g o v0 v1 v2).cell? a = some v := by
  obtain ⟨v, h⟩ := h
  obtain ⟨v, h⟩ := cell?_setCell_some (p := ⟨g, o, none⟩) (x := v0) h
  obtain ⟨v, h⟩ := cell?_setCell_some (p := ⟨g, o + 1, none⟩) (x := v1) h
  exact cell?_setCell_some (p := ⟨g, o + 2, none⟩) (x := v2) h
theorem set3_hit (x : World) (g o : Nat) (s : Sp) (h0 : ∃ v, x.cell? ⟨g, o, none⟩ = some v) (h1 : ∃ v, x.cell? ⟨g, o + 1, none⟩ = some v) (h2 : ∃ v, x.cell? ⟨g, o + 2, none⟩ = some v) :
    Spn (set3 x g o (.bool s.1) (.int .i64 s.2.1) (.int .i64 s.2.2)) g o s := by
  obtain ⟨u0, h0⟩ := h0
  obtain ⟨u1, h1⟩ := h1
  obtain ⟨u2, h2⟩ := h2
  unfold set3
  refine ⟨?_, ?_, ?_⟩
  · rw [sc_other (by intro e; injection e; omega), sc_other (by intro e; injection e; omega), sc_same h0]
  · rw [sc_other (by intro e; injection e; omega), sc_same ((sc_other (by intro e; injection e; omega)).trans h1)]
  · rw [sc_same ((sc_other (by intro e; injection e; omega)).trans ((sc_other (by intro e; injection e; omega)).trans h2))]
theorem set3_frozen (x : World) (g o : Nat) (v0 v1 v2 : Value) (a : Addr) : (set3 x g o v0 v1 v2).frozen? a = x.frozen? a := by unfold set3; simp
theorem set3_below {B : Nat} {w x : World} {g o : Nat} {v0 v1 v2 : Value} (h : Below B w x) (hg : B ≤ g) : Below B w (set3 x g o v0 v1 v2) :=
  ((h.setCell (p := ⟨g, o, none⟩) hg _).setCell (p := ⟨g, o + 1, none⟩) hg _).setCell (p := ⟨g, o + 2, none⟩) hg _
theorem set3_size (x : World) (g o : Nat) (v0 v1 v2 : Value) : (set3 x g o v0 v1 v2).heap.size = x.heap.size := by unfold set3; simp

/-- a box of five cells, that may be stored into -/
structure Bx5 (x : World) (m : Nat) (v0 v1 v2 v3 v4 : Value) : Prop where
  lt : m < x.heap.size
  c0 : x.cell? ⟨m, 0, none⟩ = some v0
  c1 : x.cell? ⟨m, 1, none⟩ = some v1
  c2 : x.cell? ⟨m, 2, none⟩ = some v2
  c3 : x.cell? ⟨m, 3, none⟩ = some v3
  c4 : x.cell? ⟨m, 4, none⟩ = some v4
  fz : ∀ k, x.frozen? ⟨m, k, none⟩ = false
theorem Bx5.new (x : World) (v0 v1 v2 v3 v4 : Value) (t : TypeId) : Bx5 (x.alloc (.cells #[v0, v1, v2, v3, v4] t)) x.heap.size v0 v1 v2 v3 v4 :=
  ⟨by simp, by simp [go_sem], by simp [go_sem], by simp [go_sem], by simp [go_sem], by simp [go_sem], fun k => by simp [go_sem]⟩
theorem Bx5.later {x y : World} {m : Nat} {v0 v1 v2 v3 v4 : Value} (h : Bx5 x m v0 v1 v2 v3 v4) (hb : Below x.heap.size x y) : Bx5 y m v0 v1 v2 v3 v4 :=
  ⟨Nat.lt_of_lt_of_le h.lt hb.size, (hb.cell (p := ⟨m, 0, none⟩) h.lt).trans h.c0, (hb.cell (p := ⟨m, 1, none⟩) h.lt).trans h.c1, (hb.cell (p := ⟨m, 2, none⟩) h.lt).trans h.c2, (hb.cell (p := ⟨m, 3, none⟩) h.lt).trans h.c3, (hb.cell (p := ⟨m, 4, none⟩) h.lt).trans h.c4, fun k => (hb.frozen (p := ⟨m, k, none⟩) h.lt).trans (h.fz k)⟩
theorem Bx5.alloc {x : World} {m : Nat} {v0 v1 v2 v3 v4 : Value} (h : Bx5 x m v0 v1 v2 v3 v4) (o : Obj) : Bx5 (x.alloc o) m v0 v1 v2 v3 v4 := h.later ((Below.refl _ _).alloc (Nat.le_refl _) _)
theorem Bx5.off {x : World} {m : Nat} {v0 v1 v2 v3 v4 : Value} (h : Bx5 x m v0 v1 v2 v3 v4) {b o : Nat} {u : Value} (hb : b ≠ m) : Bx5 (x.setCell ⟨b, o, none⟩ u) m v0 v1 v2 v3 v4 := by
  have far : ∀ k, (x.setCell ⟨b, o, none⟩ u).cell? ⟨m, k, none⟩ = x.cell? ⟨m, k, none⟩ := fun k => sc_other (by intro e; injection e; omega)
  exact ⟨by simpa using h.lt, (far _).trans h.c0, (far _).trans h.c1, (far _).trans h.c2, (far _).trans h.c3, (far _).trans h.c4, fun k => (World.frozen?_setCell _ _ _ _).trans (h.fz k)⟩
theorem Bx5.set1 {x : World} {m : Nat} {v0 v1 v2 v3 v4 u : Value} (h : Bx5 x m v0 v1 v2 v3 v4) : Bx5 (x.setCell ⟨m, 1, none⟩ u) m v0 u v2 v3 v4 := by
  have far : ∀ k, k ≠ 1 → (x.setCell ⟨m, 1, none⟩ u).cell? ⟨m, k, none⟩ = x.cell? ⟨m, k, none⟩ := fun k hk => sc_other (by intro e; injection e; omega)
  exact ⟨by simpa using h.lt, (far _ (by omega)).trans h.c0, sc_same h.c1, (far _ (by omega)).trans h.c2, (far _ (by omega)).trans h.c3, (far _ (by omega)).trans h.c4, fun k => (World.frozen?_setCell _ _ _ _).trans (h.fz k)⟩

/-- a state: whether one comes there, the registers' spans, the cells' span -/
abbrev St := Bool × List Sp × Sp
def noSt : St := (false, [], noSp)

theorem toSpanA (s : Sp) (w : World) : Calls Tryz.prog 21 #[aggS s] w fun e w' => e = .returned (aggS s) ∧ Below w.heap.size w w' := toSpan_any s.1 s.2.1 s.2.2 w

theorem infoSpan : (Tryz.prog.info? 47).map (fun i => (i.zero, i.size, i.bytes)) = some (some (aggS noSp), 3, 24) := by kernel_rfl
end Go.Proofs.YtlkebkajdlgebaaGreat

/-
  The contracts of the laws' own helpers on states: copied (toState), the same (eqSpanS, eqState).
-/
namespace Go.Proofs.YtlkebkajdlgebaaGreat
open Go.RowKit
set_option linter.unusedVariables false
set_option linter.unusedSimpArgs false

theorem SpsAt.shape {z : Bool} {x : World} {B E : Nat} {v : Value} {L : List Sp} (h : SpsAt z x B E v L) : ∃ p cap, v = .slice p L.length cap := by
  obtain ⟨p, cap, hv, _⟩ := h
  exact ⟨p, cap, hv⟩

theorem keep6 {w y : World} {g o g' o' k : Nat} {i0 : Bool} {i1 i2 : Int} (h : (fun z => z.cell? ⟨g, o + k * 3, none⟩ = some (.bool i0) ∧ z.cell? ⟨g, o + k * 3 + 1, none⟩ = some (.int .i64 i1) ∧ z.cell? ⟨g, o + k * 3 + 2, none⟩ = some (.int .i64 i2) ∧ z.cell? ⟨g', o' + k * 3, none⟩ = some (.bool i0) ∧ z.cell? ⟨g', o' + k * 3 + 1, none⟩ = some (.int .i64 i1) ∧ z.cell? ⟨g', o' + k * 3 + 2, none⟩ = some (.int .i64 i2)) w) (hb : Below w.heap.size w y) (hg : g < w.heap.size) (hg' : g' < w.heap.size) : (fun z => z.cell? ⟨g, o + k * 3, none⟩ = some (.bool i0) ∧ z.cell? ⟨g, o + k * 3 + 1, none⟩ = some (.int .i64 i1) ∧ z.cell? ⟨g, o + k * 3 + 2, none⟩ = some (.int .i64 i2) ∧ z.cell? ⟨g', o' + k * 3, none⟩ = some (.bool i0) ∧ z.cell? ⟨g', o' + k * 3 + 1, none⟩ = some (.int .i64 i1) ∧ z.cell? ⟨g', o' + k * 3 + 2, none⟩ = some (.int .i64 i2)) y := by
  obtain ⟨d0, d1, d2, e0, e1, e2⟩ := h
  exact ⟨(hb.cell (p := ⟨g, _, none⟩) hg).trans d0, (hb.cell (p := ⟨g, _, none⟩) hg).trans d1, (hb.cell (p := ⟨g, _, none⟩) hg).trans d2, (hb.cell (p := ⟨g', _, none⟩) hg').trans e0, (hb.cell (p := ⟨g', _, none⟩) hg').trans e1, (hb.cell (p := ⟨g', _, none⟩) hg').trans e2⟩
end Go.Proofs.YtlkebkajdlgebaaGreat

/-
  The laws' marks on the spans of a state: markSpanS and markState write them all, and nothing else; heldSpanS and heldState find them where they stand.
-/
namespace Go.Proofs.YtlkebkajdlgebaaGreat
open Go.RowKit
set_option linter.unusedVariables false
set_option linter.unusedSimpArgs false

/-- the mark that a span gets at number k -/
def mkS (k : Int) : Sp := (k % 3 == 0, k + 1, k + 1 + 1)
/-- the marks of n spans from number k on -/
def mks (k : Int) (n : Nat) : List Sp := (List.range n).map fun (j : Nat) => mkS (k + 3 * (j : Int))
theorem mks_len (k : Int) (n : Nat) : (mks k n).length = n := by simp [mks]
theorem mks_get (k : Int) (n j : Nat) (h : j < n) : (mks k n).getD j noSp = mkS (k + 3 * j) := by
  simp [mks, List.getD, List.getElem?_map, List.getElem?_range h]
/-- nothing but blocks from B on and ahead of E has changed -/
structure Within (B E : Nat) (x y : World) : Prop where
  sz : x.heap.size = y.heap.size
  below : Below B x y
  cell : ∀ b o, b < B ∨ E ≤ b → y.cell? ⟨b, o, none⟩ = x.cell? ⟨b, o, none⟩
  frozen : ∀ b o, y.frozen? ⟨b, o, none⟩ = x.frozen? ⟨b, o, none⟩
theorem Within.refl (B E : Nat) (x : World) : Within B E x x := ⟨rfl, Below.refl _ _, fun _ _ _ => rfl, fun _ _ => rfl⟩
theorem Within.set3 {B E : Nat} {x y : World} (h : Within B E x y) {g o : Nat} (h0 : B ≤ g) (h1 : g < E) (v0 v1 v2 : Value) : Within B E x (set3 y g o v0 v1 v2) :=
  ⟨by rw [set3_size]; exact h.sz, set3_below h.below h0, fun b p hb => (set3_miss _ _ _ _ _ _ _ _ (by omega)).trans (h.cell b p hb), fun b p => (set3_frozen _ _ _ _ _ _ _).trans (h.frozen b p)⟩

end Go.Proofs.YtlkebkajdlgebaaGreat
