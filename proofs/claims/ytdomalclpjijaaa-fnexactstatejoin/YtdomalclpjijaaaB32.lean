import Derived.Test.YtdomalclpjijaaaB4
import Derived.Test.YtdomalclpjijaaaB31
import Derived.Test.YtdomalclpjijaaaB5
/-
  A box of five cells that is read.
-/
namespace Go.Proofs.Ytdomalclpjijaaa
open Go.RowKit
set_option linter.unusedVariables false

structure Rd5 (x : World) (m : Nat) (v0 v1 v2 v3 v4 : Value) : Prop where
  lt : m < x.heap.size
  c0 : x.cell? ⟨m, 0, none⟩ = some v0
  c1 : x.cell? ⟨m, 1, none⟩ = some v1
  c2 : x.cell? ⟨m, 2, none⟩ = some v2
  c3 : x.cell? ⟨m, 3, none⟩ = some v3
  c4 : x.cell? ⟨m, 4, none⟩ = some v4
theorem Rd5.later {x y : World} {m : Nat} {v0 v1 v2 v3 v4 : Value} (h : Rd5 x m v0 v1 v2 v3 v4) (hb : Below x.heap.size x y) : Rd5 y m v0 v1 v2 v3 v4 :=
  ⟨Nat.lt_of_lt_of_le h.lt hb.size, (hb.cell (p := ⟨m, 0, none⟩) h.lt).trans h.c0, (hb.cell (p := ⟨m, 1, none⟩) h.lt).trans h.c1, (hb.cell (p := ⟨m, 2, none⟩) h.lt).trans h.c2, (hb.cell (p := ⟨m, 3, none⟩) h.lt).trans h.c3, (hb.cell (p := ⟨m, 4, none⟩) h.lt).trans h.c4⟩
theorem Rd5.stay {x y : World} {m : Nat} {v0 v1 v2 v3 v4 : Value} (h : Rd5 x m v0 v1 v2 v3 v4) (hs : x.heap.size ≤ y.heap.size) (hc : ∀ k, y.cell? ⟨m, k, none⟩ = x.cell? ⟨m, k, none⟩) : Rd5 y m v0 v1 v2 v3 v4 :=
  ⟨Nat.lt_of_lt_of_le h.lt hs, (hc _).trans h.c0, (hc _).trans h.c1, (hc _).trans h.c2, (hc _).trans h.c3, (hc _).trans h.c4⟩
theorem Bx5.rd {x : World} {m : Nat} {v0 v1 v2 v3 v4 : Value} (h : Bx5 x m v0 v1 v2 v3 v4) : Rd5 x m v0 v1 v2 v3 v4 := ⟨h.lt, h.c0, h.c1, h.c2, h.c3, h.c4⟩
end Go.Proofs.Ytdomalclpjijaaa

/-
  What a law on two states and their join keeps: the arguments, and states in boxes with their rows.
-/
namespace Go.Proofs.Ytdomalclpjijaaa
open Go.RowKit
set_option linter.unusedVariables false
set_option linter.unusedSimpArgs false

theorem stB_len (wd a : Bool) (L : List Sp) (c : Sp) (b : Bool) (M : List Sp) (d : Sp) : (stBoth wd a L c b M d).2.1.length ≤ 3 := by
  unfold stBoth
  split
  · rename_i h
    simp only [Bool.and_eq_true] at h
    have h1 := stOk_len0 h.1
    have h2 := stOk_len0 h.2
    split
    · split
      · simp [row3]
      · simp only; omega
    · simp only; omega
  · simp [noSt]
/-- the arguments of a law on two states, as they lie -/
structure Ag (w y : World) (va vb : Value) (a c : Bool) (l u : Int) (b d : Bool) (l' u' : Int) (L M : List Sp) : Prop where
  below : Below w.heap.size w y
  ba : Bx5 y w.heap.size (.bool a) va (.bool c) (.int .i64 l) (.int .i64 u)
  bb : Bx5 y (w.heap.size + 1) (.bool b) vb (.bool d) (.int .i64 l') (.int .i64 u')
  ra : SpsAt false y 0 w.heap.size va L
  rb : SpsAt false y 0 w.heap.size vb M
theorem Ag.later {w y z : World} {va vb : Value} {a c : Bool} {l u : Int} {b d : Bool} {l' u' : Int} {L M : List Sp} (h : Ag w y va vb a c l u b d l' u' L M) (hb : Below y.heap.size y z) : Ag w z va vb a c l u b d l' u' L M :=
  ⟨h.below.trans (hb.mono h.below.size), h.ba.later hb, h.bb.later hb, h.ra.later hb, h.rb.later hb⟩
theorem Ag.within {w y z : World} {va vb : Value} {a c : Bool} {l u : Int} {b d : Bool} {l' u' : Int} {L M : List Sp} {B E : Nat} (h : Ag w y va vb a c l u b d l' u' L M) (hw : Within B E y z) (hB : w.heap.size + 2 ≤ B) : Ag w z va vb a c l u b d l' u' L M :=
  ⟨h.below.trans (hw.below.mono (by omega)), h.ba.within hw (.inl (by omega)), h.bb.within hw (.inl (by omega)), h.ra.within hw (.inl (by omega)), h.rb.within hw (.inl (by omega))⟩
/-- a state in a box, its row -/
structure Pr (y : World) (B N m : Nat) (a : Bool) (p : Option Addr) (n cap : Nat) (c : Bool) (l u : Int) (L : List Sp) : Prop where
  box : Bx5 y m (.bool a) (.slice p n cap) (.bool c) (.int .i64 l) (.int .i64 u)
  row : SpsAt true y B N (.slice p n cap) L
theorem Pr.later {y z : World} {B N m : Nat} {a : Bool} {p : Option Addr} {n cap : Nat} {c : Bool} {l u : Int} {L : List Sp} (h : Pr y B N m a p n cap c l u L) (hb : Below y.heap.size y z) : Pr z B N m a p n cap c l u L := ⟨h.box.later hb, h.row.later hb⟩
theorem Pr.within {y z : World} {B N m : Nat} {a : Bool} {p : Option Addr} {n cap : Nat} {c : Bool} {l u : Int} {L : List Sp} {B' E' : Nat} (h : Pr y B N m a p n cap c l u L) (hw : Within B' E' y z) (h1 : m < B' ∨ E' ≤ m) (h2 : N ≤ B' ∨ E' ≤ B) : Pr z B N m a p n cap c l u L := ⟨h.box.within hw h1, h.row.within hw h2⟩
theorem Pr.mark {y z : World} {B N m : Nat} {a : Bool} {p : Option Addr} {n cap : Nat} {c : Bool} {l u : Int} {L M : List Sp} {B' E' : Nat} (h : Pr y B N m a p n cap c l u L) (hw : Within B' E' y z) (h1 : m < B' ∨ E' ≤ m) (h2 : SpsAt true z B N (.slice p n cap) M) : Pr z B N m a p n cap c l u M := ⟨h.box.within hw h1, h2⟩
/-- a new box for a state whose row is new -/
theorem Pr.made {y : World} {B : Nat} {a : Bool} {p : Option Addr} {n cap : Nat} {c : Bool} {l u : Int} {L : List Sp} (t : TypeId) (h : SpsAt true y B y.heap.size (.slice p n cap) L) : Pr (y.alloc (.cells #[.bool a, .slice p n cap, .bool c, .int .i64 l, .int .i64 u] t)) B y.heap.size y.heap.size a p n cap c l u L :=
  ⟨Bx5.new _ _ _ _ _ _ _, h.later ((Below.refl _ _).alloc (Nat.le_refl _) _)⟩

end Go.Proofs.Ytdomalclpjijaaa
