/-
  A run that begins: what it reads as.
-/
import Derived.Test.YtpogahhfdneagaaRNewA
namespace Go.Proofs.Ytpogahhfdneagaa
open Go.RowKit
set_option linter.unusedVariables false
set_option linter.unusedSimpArgs false

/-- a run of nothing but frames -/
def aggR (s : Value) : Value := .agg #[s, .int .i64 0, .int .i64 0, .int .i64 0, .int .i64 0, .int .i64 0, .int .i64 0]
/-- a run without frames, or with one, whose ten numbers are those of N, in memory of its own between the blocks B and E -/
def RunAt (x : World) (B E : Nat) (v : Value) : Option (Nat → Int) → Prop
  | none => ∃ p cap, v = aggR (.slice p 0 cap)
  | some N => ∃ g ga gb cap, v = aggR (.slice (some ⟨g, 0, none⟩) 1 cap) ∧ (B ≤ g ∧ B ≤ ga ∧ B ≤ gb ∧ g < E ∧ ga < E ∧ gb < E ∧ E ≤ x.heap.size) ∧ (g ≠ ga ∧ g ≠ gb ∧ ga ≠ gb) ∧ RB x g ga gb 3 3 N
theorem RB.stay {x y : World} {g ga gb ca cb : Nat} {N : Nat → Int} (h : RB x g ga gb ca cb N) (hc : ∀ b o, b = g ∨ b = ga ∨ b = gb → y.cell? ⟨b, o, none⟩ = x.cell? ⟨b, o, none⟩ ∧ y.frozen? ⟨b, o, none⟩ = x.frozen? ⟨b, o, none⟩) : RB y g ga gb ca cb N := by
  obtain ⟨c0, c1, c2, c3, c4, c5, a0, a1, a2, b0, b1, b2, fg, fa, fb⟩ := h
  have hg := fun o => hc g o (.inl rfl)
  have ha := fun o => hc ga o (.inr (.inl rfl))
  have hb := fun o => hc gb o (.inr (.inr rfl))
  exact ⟨(hg _).1.trans c0, (hg _).1.trans c1, (hg _).1.trans c2, (hg _).1.trans c3, (hg _).1.trans c4, (hg _).1.trans c5, (ha _).1.trans a0, (ha _).1.trans a1, (ha _).1.trans a2, (hb _).1.trans b0, (hb _).1.trans b1, (hb _).1.trans b2, fun k => (hg k).2.trans (fg k), fun k => (ha k).2.trans (fa k), fun k => (hb k).2.trans (fb k)⟩
theorem RunAt.later {x y : World} {B E : Nat} {v : Value} {o : Option (Nat → Int)} (h : RunAt x B E v o) (hb : Below x.heap.size x y) : RunAt y B E v o := by
  cases o with
  | none => exact h
  | some N =>
    obtain ⟨g, ga, gb, cap, e, ⟨h1, h2, h3, h4, h5, h6, h7⟩, hn, hr⟩ := h
    refine ⟨g, ga, gb, cap, e, ⟨h1, h2, h3, h4, h5, h6, Nat.le_trans h7 hb.size⟩, hn, hr.stay fun b o hbo => ?_⟩
    have hlt : b < x.heap.size := by omega
    exact ⟨hb.cell (p := ⟨b, o, none⟩) hlt, hb.frozen (p := ⟨b, o, none⟩) hlt⟩
theorem RunAt.wide {x : World} {B E C D : Nat} {v : Value} {o : Option (Nat → Int)} (h : RunAt x B E v o) (hc : C ≤ B) (hd : E ≤ D) (hx : D ≤ x.heap.size) : RunAt x C D v o := by
  cases o with
  | none => exact h
  | some N =>
    obtain ⟨g, ga, gb, cap, e, ⟨h1, h2, h3, h4, h5, h6, h7⟩, hn, hr⟩ := h
    exact ⟨g, ga, gb, cap, e, ⟨by omega, by omega, by omega, by omega, by omega, by omega, hx⟩, hn, hr⟩
theorem RunAt.within {x y : World} {B E C D : Nat} {v : Value} {o : Option (Nat → Int)} (h : RunAt x C D v o) (hw : Within B E x y) (hd : D ≤ B ∨ E ≤ C) : RunAt y C D v o := by
  cases o with
  | none => exact h
  | some N =>
    obtain ⟨g, ga, gb, cap, e, ⟨h1, h2, h3, h4, h5, h6, h7⟩, hn, hr⟩ := h
    refine ⟨g, ga, gb, cap, e, ⟨h1, h2, h3, h4, h5, h6, by rw [← hw.sz]; exact h7⟩, hn, hr.stay fun b o hbo => ⟨hw.cell b o (by omega), hw.frozen b o⟩⟩

theorem RunAt.off {x : World} {B E : Nat} {v : Value} {o : Option (Nat → Int)} (h : RunAt x B E v o) {m q : Nat} {u : Value} (hm : m < B) : RunAt (x.setCell ⟨m, q, none⟩ u) B E v o := by
  cases o with
  | none => exact h
  | some N =>
    obtain ⟨g, ga, gb, cap, e, ⟨h1, h2, h3, h4, h5, h6, h7⟩, hn, hr⟩ := h
    exact ⟨g, ga, gb, cap, e, ⟨h1, h2, h3, h4, h5, h6, by simpa using h7⟩, hn, hr.stay fun b o hbo => ⟨sc_other (by intro e; injection e; omega), World.frozen?_setCell _ _ _ _⟩⟩
theorem RunAt.built (z : World) (B ga gb : Nat) (t : TypeId) (h1 : B ≤ ga) (h2 : B ≤ gb) (h3 : ga < z.heap.size) (h4 : gb < z.heap.size) (hne : ga ≠ gb)
    (ha : z.cell? ⟨ga, 0, none⟩ = some (.int .i64 0) ∧ z.cell? ⟨ga, 1, none⟩ = some (.int .i64 0) ∧ z.cell? ⟨ga, 2, none⟩ = some (.int .i64 0)) (hb : z.cell? ⟨gb, 0, none⟩ = some (.int .i64 0) ∧ z.cell? ⟨gb, 1, none⟩ = some (.int .i64 0) ∧ z.cell? ⟨gb, 2, none⟩ = some (.int .i64 0))
    (fa : ∀ k, z.frozen? ⟨ga, k, none⟩ = false) (fb : ∀ k, z.frozen? ⟨gb, k, none⟩ = false) :
    RunAt (z.alloc (.cells #[.int .i64 0, .int .i64 0, .int .i64 0, .slice (some ⟨ga, 0, none⟩) 3 3, .slice (some ⟨gb, 0, none⟩) 3 3, .int .i64 0] t)) B (z.heap.size + 1) (aggR (.slice (some ⟨z.heap.size, 0, none⟩) 1 1)) (some fun _ => 0) := by
  have hbl : Below z.heap.size z (z.alloc (.cells #[.int .i64 0, .int .i64 0, .int .i64 0, .slice (some ⟨ga, 0, none⟩) 3 3, .slice (some ⟨gb, 0, none⟩) 3 3, .int .i64 0] t)) := (Below.refl _ _).alloc (Nat.le_refl _) _
  obtain ⟨a0, a1, a2⟩ := ha
  obtain ⟨b0, b1, b2⟩ := hb
  have ca := fun o => hbl.cell (p := ⟨ga, o, none⟩) h3
  have cb := fun o => hbl.cell (p := ⟨gb, o, none⟩) h4
  exact ⟨z.heap.size, ga, gb, 1, rfl, ⟨by omega, by omega, by omega, by omega, by omega, by omega, by simp⟩, ⟨by omega, by omega, hne⟩, ⟨by simp [go_sem], by simp [go_sem], by simp [go_sem], by simp [go_sem], by simp [go_sem], by simp [go_sem], (ca 0).trans a0, (ca 1).trans a1, (ca 2).trans a2, (cb 0).trans b0, (cb 1).trans b1, (cb 2).trans b2, fun k => by simp [go_sem], fun k => (hbl.frozen (p := ⟨ga, k, none⟩) h3).trans (fa k), fun k => (hbl.frozen (p := ⟨gb, k, none⟩) h4).trans (fb k)⟩⟩

/-- the run that begins -/
def newF (P : List (List I4)) : Option (Nat → Int) := if progOkF P = true then some (fun _ => 0) else none
theorem newF_ok {P : List (List I4)} (h : progOkF P = true) : newF P = some (fun _ => 0) := by simp [newF, h]
theorem newF_no {P : List (List I4)} (h : progOkF P = false) : newF P = none := by simp [newF, h]

/-- a box of a run of nothing -/
structure Bx7 (x : World) (m : Nat) : Prop where
  lt : m < x.heap.size
  c0 : x.cell? ⟨m, 0, none⟩ = some (.slice none 0 0)
  c1 : x.cell? ⟨m, 1, none⟩ = some (.int .i64 0)
  c2 : x.cell? ⟨m, 2, none⟩ = some (.int .i64 0)
  c3 : x.cell? ⟨m, 3, none⟩ = some (.int .i64 0)
  c4 : x.cell? ⟨m, 4, none⟩ = some (.int .i64 0)
  c5 : x.cell? ⟨m, 5, none⟩ = some (.int .i64 0)
  c6 : x.cell? ⟨m, 6, none⟩ = some (.int .i64 0)
  fz : ∀ k, x.frozen? ⟨m, k, none⟩ = false
theorem Bx7.new (x : World) (t : TypeId) : Bx7 (x.alloc (.cells #[.slice none 0 0, .int .i64 0, .int .i64 0, .int .i64 0, .int .i64 0, .int .i64 0, .int .i64 0] t)) x.heap.size :=
  ⟨by simp, by simp [go_sem], by simp [go_sem], by simp [go_sem], by simp [go_sem], by simp [go_sem], by simp [go_sem], by simp [go_sem], fun k => by simp [go_sem]⟩
theorem Bx7.later {x y : World} {m : Nat} (h : Bx7 x m) (hb : Below x.heap.size x y) : Bx7 y m :=
  ⟨Nat.lt_of_lt_of_le h.lt hb.size, (hb.cell (p := ⟨m, 0, none⟩) h.lt).trans h.c0, (hb.cell (p := ⟨m, 1, none⟩) h.lt).trans h.c1, (hb.cell (p := ⟨m, 2, none⟩) h.lt).trans h.c2, (hb.cell (p := ⟨m, 3, none⟩) h.lt).trans h.c3, (hb.cell (p := ⟨m, 4, none⟩) h.lt).trans h.c4, (hb.cell (p := ⟨m, 5, none⟩) h.lt).trans h.c5, (hb.cell (p := ⟨m, 6, none⟩) h.lt).trans h.c6, fun k => (hb.frozen (p := ⟨m, k, none⟩) h.lt).trans (h.fz k)⟩

end Go.Proofs.Ytpogahhfdneagaa
