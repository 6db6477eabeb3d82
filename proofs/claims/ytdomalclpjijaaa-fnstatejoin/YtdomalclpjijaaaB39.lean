import Derived.Test.YtdomalclpjijaaaB37
import Derived.Test.YtdomalclpjijaaaB9
import Derived.Test.YtdomalclpjijaaaB38
import Derived.Test.YtdomalclpjijaaaB2
import Derived.Test.YtdomalclpjijaaaB7
import Derived.Test.YtdomalclpjijaaaB30
import Derived.Test.YtdomalclpjijaaaB36
/-
  What a law on two states and their join keeps: the arguments, and states in boxes with their rows.
-/
namespace Go.Proofs.Ytdomalclpjijaaa
open Go.RowKit
set_option linter.unusedVariables false
set_option linter.unusedSimpArgs false

theorem stB_len (wd a : Bool) (L : List Sp) (c : Sp) (b : Bool) (M : List Sp) (d : Sp) : (stBoth wd a L c b M d).2.1.length ≤ 3 := by
  unfold stBoth
  split
  · rename_i h
    simp only [Bool.and_eq_true] at h
    have h1 := stOk_len0 h.1
    have h2 := stOk_len0 h.2
    split
    · split
      · simp [row3]
      · simp only; omega
    · simp only; omega
  · simp [noSt]
/-- the arguments of a law on two states, as they lie -/
structure Ag (w y : World) (va vb : Value) (a c : Bool) (l u : Int) (b d : Bool) (l' u' : Int) (L M : List Sp) : Prop where
  below : Below w.heap.size w y
  ba : Bx5 y w.heap.size (.bool a) va (.bool c) (.int .i64 l) (.int .i64 u)
  bb : Bx5 y (w.heap.size + 1) (.bool b) vb (.bool d) (.int .i64 l') (.int .i64 u')
  ra : SpsAt false y 0 w.heap.size va L
  rb : SpsAt false y 0 w.heap.size vb M
theorem Ag.later {w y z : World} {va vb : Value} {a c : Bool} {l u : Int} {b d : Bool} {l' u' : Int} {L M : List Sp} (h : Ag w y va vb a c l u b d l' u' L M) (hb : Below y.heap.size y z) : Ag w z va vb a c l u b d l' u' L M :=
  ⟨h.below.trans (hb.mono h.below.size), h.ba.later hb, h.bb.later hb, h.ra.later hb, h.rb.later hb⟩
theorem Ag.within {w y z : World} {va vb : Value} {a c : Bool} {l u : Int} {b d : Bool} {l' u' : Int} {L M : List Sp} {B E : Nat} (h : Ag w y va vb a c l u b d l' u' L M) (hw : Within B E y z) (hB : w.heap.size + 2 ≤ B) : Ag w z va vb a c l u b d l' u' L M :=
  ⟨h.below.trans (hw.below.mono (by omega)), h.ba.within hw (.inl (by omega)), h.bb.within hw (.inl (by omega)), h.ra.within hw (.inl (by omega)), h.rb.within hw (.inl (by omega))⟩
/-- a state in a box, its row -/
structure Pr (y : World) (B N m : Nat) (a : Bool) (p : Option Addr) (n cap : Nat) (c : Bool) (l u : Int) (L : List Sp) : Prop where
  box : Bx5 y m (.bool a) (.slice p n cap) (.bool c) (.int .i64 l) (.int .i64 u)
  row : SpsAt true y B N (.slice p n cap) L
theorem Pr.later {y z : World} {B N m : Nat} {a : Bool} {p : Option Addr} {n cap : Nat} {c : Bool} {l u : Int} {L : List Sp} (h : Pr y B N m a p n cap c l u L) (hb : Below y.heap.size y z) : Pr z B N m a p n cap c l u L := ⟨h.box.later hb, h.row.later hb⟩
theorem Pr.within {y z : World} {B N m : Nat} {a : Bool} {p : Option Addr} {n cap : Nat} {c : Bool} {l u : Int} {L : List Sp} {B' E' : Nat} (h : Pr y B N m a p n cap c l u L) (hw : Within B' E' y z) (h1 : m < B' ∨ E' ≤ m) (h2 : N ≤ B' ∨ E' ≤ B) : Pr z B N m a p n cap c l u L := ⟨h.box.within hw h1, h.row.within hw h2⟩
theorem Pr.mark {y z : World} {B N m : Nat} {a : Bool} {p : Option Addr} {n cap : Nat} {c : Bool} {l u : Int} {L M : List Sp} {B' E' : Nat} (h : Pr y B N m a p n cap c l u L) (hw : Within B' E' y z) (h1 : m < B' ∨ E' ≤ m) (h2 : SpsAt true z B N (.slice p n cap) M) : Pr z B N m a p n cap c l u M := ⟨h.box.within hw h1, h2⟩
/-- a new box for a state whose row is new -/
theorem Pr.made {y : World} {B : Nat} {a : Bool} {p : Option Addr} {n cap : Nat} {c : Bool} {l u : Int} {L : List Sp} (t : TypeId) (h : SpsAt true y B y.heap.size (.slice p n cap) L) : Pr (y.alloc (.cells #[.bool a, .slice p n cap, .bool c, .int .i64 l, .int .i64 u] t)) B y.heap.size y.heap.size a p n cap c l u L :=
  ⟨Bx5.new _ _ _ _ _ _ _, h.later ((Below.refl _ _).alloc (Nat.le_refl _) _)⟩

end Go.Proofs.Ytdomalclpjijaaa

/-
  A state that a slot holds, in a region by predicates.
-/
namespace Go.Proofs.Ytdomalclpjijaaa
open Go.RowKit
set_option linter.unusedVariables false
set_option linter.unusedSimpArgs false

def StV (r : St) (v : Value) (x : World) : Prop := ∃ (p : Option Addr) (cap B E : Nat), v = .agg #[.bool r.1, .slice p r.2.1.length cap, .bool r.2.2.1, .int .i64 r.2.2.2.1, .int .i64 r.2.2.2.2] ∧ SpsAt true x B E (.slice p r.2.1.length cap) r.2.1
theorem StV.later {r : St} {v : Value} {x y : World} (h : StV r v x) (hb : Below x.heap.size x y) : StV r v y := by
  obtain ⟨p, cap, B, E, e, hs⟩ := h
  exact ⟨p, cap, B, E, e, hs.later hb⟩
theorem stV_of {r r' : St} {x : World} {e : Ending} {y : World} (h : StAt r x e y) (hr : r = r') : ∃ v, e = .returned v ∧ StV r' v y ∧ Below x.heap.size x y := by
  subst hr
  obtain ⟨v, he, hs, hb⟩ := h
  obtain ⟨p, cap, rfl⟩ := hs.shape
  exact ⟨_, he, ⟨p, cap, _, _, rfl, hs⟩, hb⟩
end Go.Proofs.Ytdomalclpjijaaa
