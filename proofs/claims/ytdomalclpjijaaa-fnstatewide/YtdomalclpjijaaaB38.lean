import Derived.Test.YtdomalclpjijaaaB23
import Derived.Test.YtdomalclpjijaaaB8
/-
  The walk of the exact law of StateEntry.
-/
namespace Go.Proofs.Ytdomalclpjijaaa
open Go.RowKit
set_option linter.unusedVariables false
set_option linter.unusedSimpArgs false

theorem Bx5.within {x y : World} {B E m : Nat} {v0 v1 v2 v3 v4 : Value} (h : Bx5 x m v0 v1 v2 v3 v4) (hw : Within B E x y) (hm : m < B ∨ E ≤ m) : Bx5 y m v0 v1 v2 v3 v4 :=
  ⟨by rw [← hw.sz]; exact h.lt, (hw.cell _ _ hm).trans h.c0, (hw.cell _ _ hm).trans h.c1, (hw.cell _ _ hm).trans h.c2, (hw.cell _ _ hm).trans h.c3, (hw.cell _ _ hm).trans h.c4, fun k => (hw.frozen _ _).trans (h.fz k)⟩
theorem SpsAt.within {z : Bool} {x y : World} {B E C D : Nat} {v : Value} {L : List Sp} (h : SpsAt z x C D v L) (hw : Within B E x y) (hd : D ≤ B ∨ E ≤ C) : SpsAt z y C D v L :=
  h.stay (by rw [hw.sz]; exact Nat.le_refl _) fun g o h1 h2 => ⟨hw.cell _ _ (by omega), hw.frozen _ _⟩

/-- what a law on one answer keeps: the model's answer in the box m3, the program's in the box m4; their spans lie apart -/
structure EntL (w y : World) (m3 m4 : Nat) (a c : Bool) (l u : Int) (p0 p1 : Option Addr) (n cap0 cap1 : Nat) (L M : List Sp) : Prop where
  below : Below w.heap.size w y
  le3 : w.heap.size ≤ m3
  lt34 : m3 < m4
  k3 : Bx5 y m3 (.bool a) (.slice p0 n cap0) (.bool c) (.int .i64 l) (.int .i64 u)
  s0 : SpsAt true y w.heap.size m3 (.slice p0 n cap0) L
  k4 : Bx5 y m4 (.bool a) (.slice p1 n cap1) (.bool c) (.int .i64 l) (.int .i64 u)
  s1 : SpsAt true y (m3 + 1) m4 (.slice p1 n cap1) M
theorem EntL.later {w y z : World} {m3 m4 : Nat} {a c : Bool} {l u : Int} {p0 p1 : Option Addr} {n cap0 cap1 : Nat} {L M : List Sp} (h : EntL w y m3 m4 a c l u p0 p1 n cap0 cap1 L M) (hb : Below y.heap.size y z) : EntL w z m3 m4 a c l u p0 p1 n cap0 cap1 L M :=
  ⟨h.below.trans (hb.mono h.below.size), h.le3, h.lt34, h.k3.later hb, h.s0.later hb, h.k4.later hb, h.s1.later hb⟩
theorem EntL.alloc {w y : World} {m3 m4 : Nat} {a c : Bool} {l u : Int} {p0 p1 : Option Addr} {n cap0 cap1 : Nat} {L M : List Sp} (h : EntL w y m3 m4 a c l u p0 p1 n cap0 cap1 L M) (o : Obj) : EntL w (y.alloc o) m3 m4 a c l u p0 p1 n cap0 cap1 L M :=
  h.later ((Below.refl _ _).alloc (Nat.le_refl _) _)
theorem EntL.mark {w y z : World} {m3 m4 : Nat} {a c : Bool} {l u : Int} {p0 p1 : Option Addr} {n cap0 cap1 : Nat} {L M M' : List Sp} (h : EntL w y m3 m4 a c l u p0 p1 n cap0 cap1 L M) (hw : Within (m3 + 1) m4 y z) (hs : SpsAt true z (m3 + 1) m4 (.slice p1 n cap1) M') : EntL w z m3 m4 a c l u p0 p1 n cap0 cap1 L M' :=
  have h1 := h.le3
  have h2 := h.lt34
  ⟨h.below.trans (hw.below.mono (by omega)), h1, h2, h.k3.within hw (by omega), h.s0.within hw (by omega), h.k4.within hw (by omega), hs⟩

theorem ent_len (k : Int) : (entF k).2.1.length ≤ 3 := by unfold entF; split <;> simp [noSt]

end Go.Proofs.Ytdomalclpjijaaa

/-
  A box of five cells that is read.
-/
namespace Go.Proofs.Ytdomalclpjijaaa
open Go.RowKit
set_option linter.unusedVariables false

structure Rd5 (x : World) (m : Nat) (v0 v1 v2 v3 v4 : Value) : Prop where
  lt : m < x.heap.size
  c0 : x.cell? ⟨m, 0, none⟩ = some v0
  c1 : x.cell? ⟨m, 1, none⟩ = some v1
  c2 : x.cell? ⟨m, 2, none⟩ = some v2
  c3 : x.cell? ⟨m, 3, none⟩ = some v3
  c4 : x.cell? ⟨m, 4, none⟩ = some v4
theorem Rd5.later {x y : World} {m : Nat} {v0 v1 v2 v3 v4 : Value} (h : Rd5 x m v0 v1 v2 v3 v4) (hb : Below x.heap.size x y) : Rd5 y m v0 v1 v2 v3 v4 :=
  ⟨Nat.lt_of_lt_of_le h.lt hb.size, (hb.cell (p := ⟨m, 0, none⟩) h.lt).trans h.c0, (hb.cell (p := ⟨m, 1, none⟩) h.lt).trans h.c1, (hb.cell (p := ⟨m, 2, none⟩) h.lt).trans h.c2, (hb.cell (p := ⟨m, 3, none⟩) h.lt).trans h.c3, (hb.cell (p := ⟨m, 4, none⟩) h.lt).trans h.c4⟩
theorem Rd5.stay {x y : World} {m : Nat} {v0 v1 v2 v3 v4 : Value} (h : Rd5 x m v0 v1 v2 v3 v4) (hs : x.heap.size ≤ y.heap.size) (hc : ∀ k, y.cell? ⟨m, k, none⟩ = x.cell? ⟨m, k, none⟩) : Rd5 y m v0 v1 v2 v3 v4 :=
  ⟨Nat.lt_of_lt_of_le h.lt hs, (hc _).trans h.c0, (hc _).trans h.c1, (hc _).trans h.c2, (hc _).trans h.c3, (hc _).trans h.c4⟩
theorem Bx5.rd {x : World} {m : Nat} {v0 v1 v2 v3 v4 : Value} (h : Bx5 x m v0 v1 v2 v3 v4) : Rd5 x m v0 v1 v2 v3 v4 := ⟨h.lt, h.c0, h.c1, h.c2, h.c3, h.c4⟩
end Go.Proofs.Ytdomalclpjijaaa
