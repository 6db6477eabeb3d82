import Derived.Test.YtbjegekfghihkaaB20
import Derived.Test.YtbjegekfghihkaaB17
import Derived.Test.YtbjegekfghihkaaB19
/-
  Rows of at most one site: what they read as; the laws' own helpers that compare, mark and find them.
-/
namespace Go.Proofs.Ytbjegekfghihkaa
open Go.RowKit
set_option linter.unusedVariables false
set_option linter.unusedSimpArgs false

/-- a site: its procedure, its place, its fault -/
abbrev T3 := Int × Int × Int
def aggT (s : T3) : Value := .agg #[.int .i64 s.1, .int .i64 s.2.1, .int .i64 s.2.2]
/-- a box of three numbers -/
structure Si3 (x : World) (g o : Nat) (s : T3) : Prop where
  c0 : x.cell? ⟨g, o, none⟩ = some (.int .i64 s.1)
  c1 : x.cell? ⟨g, o + 1, none⟩ = some (.int .i64 s.2.1)
  c2 : x.cell? ⟨g, o + 2, none⟩ = some (.int .i64 s.2.2)
  f0 : x.frozen? ⟨g, o, none⟩ = false
  f1 : x.frozen? ⟨g, o + 1, none⟩ = false
  f2 : x.frozen? ⟨g, o + 2, none⟩ = false
theorem Si3.later {x y : World} {g o : Nat} {s : T3} (h : Si3 x g o s) (hb : Below x.heap.size x y) (hg : g < x.heap.size) : Si3 y g o s :=
  ⟨(hb.cell (p := ⟨g, _, none⟩) hg).trans h.c0, (hb.cell (p := ⟨g, _, none⟩) hg).trans h.c1, (hb.cell (p := ⟨g, _, none⟩) hg).trans h.c2, (hb.frozen (p := ⟨g, _, none⟩) hg).trans h.f0, (hb.frozen (p := ⟨g, _, none⟩) hg).trans h.f1, (hb.frozen (p := ⟨g, _, none⟩) hg).trans h.f2⟩
/-- a row of at most one site, between the blocks B and E -/
def SitesAt (x : World) (B E : Nat) (v : Value) : Option T3 → Prop
  | none => ∃ p cap, v = .slice p 0 cap
  | some s => ∃ g cap, v = .slice (some ⟨g, 0, none⟩) 1 cap ∧ B ≤ g ∧ g < E ∧ E ≤ x.heap.size ∧ Si3 x g 0 s
theorem SitesAt.later {x y : World} {B E : Nat} {v : Value} {o : Option T3} (h : SitesAt x B E v o) (hb : Below x.heap.size x y) : SitesAt y B E v o := by
  cases o with
  | none => exact h
  | some s =>
    obtain ⟨g, cap, e, h1, h2, h3, h4⟩ := h
    exact ⟨g, cap, e, h1, h2, Nat.le_trans h3 hb.size, h4.later hb (by omega)⟩
theorem SitesAt.wide {x : World} {B E C D : Nat} {v : Value} {o : Option T3} (h : SitesAt x B E v o) (hc : C ≤ B) (hd : E ≤ D) (hx : D ≤ x.heap.size) : SitesAt x C D v o := by
  cases o with
  | none => exact h
  | some s =>
    obtain ⟨g, cap, e, h1, h2, h3, h4⟩ := h
    exact ⟨g, cap, e, by omega, by omega, hx, h4⟩
theorem SitesAt.within {x y : World} {B E C D : Nat} {v : Value} {o : Option T3} (h : SitesAt x C D v o) (hw : Within B E x y) (hd : D ≤ B ∨ E ≤ C) : SitesAt y C D v o := by
  cases o with
  | none => exact h
  | some s =>
    obtain ⟨g, cap, e, h1, h2, h3, c0, c1, c2, f0, f1, f2⟩ := h
    exact ⟨g, cap, e, h1, h2, by rw [← hw.sz]; exact h3, (hw.cell _ _ (by omega)).trans c0, (hw.cell _ _ (by omega)).trans c1, (hw.cell _ _ (by omega)).trans c2, (hw.frozen _ _).trans f0, (hw.frozen _ _).trans f1, (hw.frozen _ _).trans f2⟩

theorem eqSite_same (s : T3) (w : World) : Calls Try.prog 48 #[aggT s, aggT s] w fun e w' => e = .returned (.bool true) ∧ Below w.heap.size w w' := by
  unfold aggT
  go_enter Try.func48, Try.ntmps48
  go_wp2
  go_ret
  exact ⟨rfl, by go_grown⟩

theorem eqSite_at (s : T3) (w : World) : Calls Try.prog 48 #[.agg #[.int .i64 s.1, .int .i64 s.2.1, .int .i64 s.2.2], .agg #[.int .i64 s.1, .int .i64 s.2.1, .int .i64 s.2.2]] w fun e w' => e = .returned (.bool true) ∧ Below w.heap.size w w' := eqSite_same s w
end Go.Proofs.Ytbjegekfghihkaa

/-
  The contract of the program's sitesFrom.
-/
namespace Go.Proofs.Ytbjegekfghihkaa
open Go.RowKit
set_option linter.unusedVariables false
set_option linter.unusedSimpArgs false

/-- what may be wrong at a place -/
def siteF (c : List I4) (n m : Nat) (L : List Sp) : Option T3 := if m = c.length then none else if mayF (c.getD m i0) L = true then some (n, m, faultF (c.getD m i0)) else none

end Go.Proofs.Ytbjegekfghihkaa
