import Derived.Test.YtdomalclpjijaaaB6
import Derived.Orders
import Derived.Test.YtdomalclpjijaaaB1
import Derived.Test.YtdomalclpjijaaaRows
import Derived.Handy
import Derived.WalkLawsBesides
/-
  A region that draws its order and makes variables of three cells (InvA at those).
-/
namespace Go.Proofs.Ytdomalclpjijaaa
open Go.RowKit
set_option linter.unusedVariables false
set_option linter.unusedSimpArgs false

/-- A variable that a region makes and fills: whether it is made, whether it is filled, its slot, what it is filled with. -/
structure PF (w0 x : World) (b bs : Bool) (s : Value) (V : Sp) : Prop where
  ord : bs = true → b = true
  at_ : b = true → ∃ (m : Nat) (a : Bool) (l u : Int), s = .pointer (some ⟨m, 0, none⟩) ∧ w0.heap.size ≤ m ∧ Sp3 x m a l u ∧ (bs = true → (a, l, u) = V)

theorem PF.later {w0 x y : World} {b bs : Bool} {s : Value} {V : Sp} (h : PF w0 x b bs s V) (hb : Below x.heap.size x y) : PF w0 y b bs s V :=
  ⟨h.ord, fun q => by obtain ⟨m, a, l, u, e, h1, h2, h3⟩ := h.at_ q; exact ⟨m, a, l, u, e, h1, h2.later hb, h3⟩⟩
theorem PF.non {w0 x : World} {s : Value} {V : Sp} : PF w0 x false false s V := ⟨id, fun h => by cases h⟩
theorem sp3_new (x : World) (a : Bool) (l u : Int) (t : _) : Sp3 (x.alloc (.cells #[.bool a, .int .i64 l, .int .i64 u] t)) x.heap.size a l u :=
  ⟨by simp, by simp [go_sem], by simp [go_sem], by simp [go_sem], by simp [go_sem], by simp [go_sem], by simp [go_sem]⟩
theorem PF.made {w0 x : World} {bs : Bool} {s : Value} {V : Sp} {t : _} (h : PF w0 x false bs s V) (hb : Below w0.heap.size w0 x) (a : Bool) (l u : Int) :
    PF w0 (x.alloc (.cells #[.bool a, .int .i64 l, .int .i64 u] t)) true bs (.pointer (some ⟨x.heap.size, 0, none⟩)) V :=
  ⟨fun _ => rfl, fun _ => ⟨_, a, l, u, rfl, hb.size, sp3_new x a l u t, fun q => by have := h.ord q; cases this⟩⟩
theorem PF.lt {w0 x : World} {b bs : Bool} {s : Value} {V : Sp} {m : Nat} (h : PF w0 x b bs s V) (q : b = true) (e : s = .pointer (some ⟨m, 0, none⟩)) : m < x.heap.size := by
  obtain ⟨m', a, l, u, e', _, h2, _⟩ := h.at_ q
  rw [e] at e'; injection e' with e'; injection e' with e'; injection e' with e'; rw [e']; exact h2.lt
/-- two pointers that the region has made are not the same -/
def Apart2 (b c : Bool) (s t : Value) : Prop := b = true → c = true → ∀ m : Nat, s = .pointer (some ⟨m, 0, none⟩) → t = .pointer (some ⟨m, 0, none⟩) → False
theorem Apart2.fst {w0 x : World} {c cs : Bool} {t : Value} {V : Sp} (h : PF w0 x c cs t V) : Apart2 true c (.pointer (some ⟨x.heap.size, 0, none⟩)) t := by
  intro _ hc m e1 e2
  have := h.lt hc e2
  injection e1 with e1; injection e1 with e1; injection e1 with e1
  omega
theorem Apart2.snd {w0 x : World} {c cs : Bool} {t : Value} {V : Sp} (h : PF w0 x c cs t V) : Apart2 c true t (.pointer (some ⟨x.heap.size, 0, none⟩)) := by
  intro hc _ m e1 e2
  have := h.lt hc e1
  injection e2 with e2; injection e2 with e2; injection e2 with e2
  omega
theorem PF.set {w0 x : World} {m : Nat} {a b : Bool} {l u k v : Int} (hw : w0.heap.size ≤ m) (h : Sp3 x m a l u) :
    PF w0 (((x.setCell ⟨m, 0, none⟩ (.bool b)).setCell ⟨m, 1, none⟩ (.int .i64 k)).setCell ⟨m, 2, none⟩ (.int .i64 v)) true true (.pointer (some ⟨m, 0, none⟩)) (b, k, v) :=
  ⟨fun _ => rfl, fun _ => ⟨m, b, k, v, rfl, hw, h.set, fun _ => rfl⟩⟩
theorem PF.off {w0 x : World} {m : Nat} {b : Bool} {k v : Int} {c cs : Bool} {t : Value} {V : Sp} (h : PF w0 x c cs t V) (ha : c = true → t = .pointer (some ⟨m, 0, none⟩) → False) :
    PF w0 (((x.setCell ⟨m, 0, none⟩ (.bool b)).setCell ⟨m, 1, none⟩ (.int .i64 k)).setCell ⟨m, 2, none⟩ (.int .i64 v)) c cs t V :=
  ⟨h.ord, fun q => by
    obtain ⟨m', a, l, u, e, h1, h2, h3⟩ := h.at_ q
    have hne : m' ≠ m := fun hh => ha q (by rw [e, hh])
    exact ⟨m', a, l, u, e, h1, ((h2.off hne).off hne).off hne, h3⟩⟩
theorem below_set3 {w0 x : World} {m : Nat} {v0 v1 v2 : Value} (h : Below w0.heap.size w0 x) (hm : w0.heap.size ≤ m) : Below w0.heap.size w0 (((x.setCell ⟨m, 0, none⟩ v0).setCell ⟨m, 1, none⟩ v1).setCell ⟨m, 2, none⟩ v2) :=
  ((h.setCell (p := ⟨m, 0, none⟩) hm _).setCell (p := ⟨m, 1, none⟩) hm _).setCell (p := ⟨m, 2, none⟩) hm _
end Go.Proofs.Ytdomalclpjijaaa

/-
  Plain facts that many texts use.
-/
namespace Go.Proofs.Ytdomalclpjijaaa
open Go.RowKit
set_option linter.unusedVariables false
set_option linter.unusedSimpArgs false

theorem retInt {k : IntKind} {a b : Int} (h : a = b) : Ending.returned (.int k a) = .returned (.int k b) := by rw [h]
theorem sc_other {w : World} {a b : Addr} {v : Value} (h : a ≠ b) : (w.setCell a v).cell? b = w.cell? b := World.cell?_setCell_other w a b v h
theorem sc_same {w : World} {a : Addr} {v u : Value} (h : w.cell? a = some u) : (w.setCell a v).cell? a = some v := World.cell?_setCell_same w a v h

end Go.Proofs.Ytdomalclpjijaaa
