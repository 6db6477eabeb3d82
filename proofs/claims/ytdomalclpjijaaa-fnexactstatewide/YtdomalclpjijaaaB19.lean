import Derived.Test.YtdomalclpjijaaaB9
import Derived.Orders
import Derived.Test.YtdomalclpjijaaaB18
import Derived.Test.YtdomalclpjijaaaB14
/-
  A region that draws its order and makes variables of three cells (InvA at those).
-/
namespace Go.Proofs.Ytdomalclpjijaaa
open Go.RowKit
set_option linter.unusedVariables false
set_option linter.unusedSimpArgs false

/-- A variable that a region makes and fills: whether it is made, whether it is filled, its slot, what it is filled with. -/
structure PF (w0 x : World) (b bs : Bool) (s : Value) (V : Sp) : Prop where
  ord : bs = true → b = true
  at_ : b = true → ∃ (m : Nat) (a : Bool) (l u : Int), s = .pointer (some ⟨m, 0, none⟩) ∧ w0.heap.size ≤ m ∧ Sp3 x m a l u ∧ (bs = true → (a, l, u) = V)

theorem PF.later {w0 x y : World} {b bs : Bool} {s : Value} {V : Sp} (h : PF w0 x b bs s V) (hb : Below x.heap.size x y) : PF w0 y b bs s V :=
  ⟨h.ord, fun q => by obtain ⟨m, a, l, u, e, h1, h2, h3⟩ := h.at_ q; exact ⟨m, a, l, u, e, h1, h2.later hb, h3⟩⟩
theorem PF.non {w0 x : World} {s : Value} {V : Sp} : PF w0 x false false s V := ⟨id, fun h => by cases h⟩
theorem sp3_new (x : World) (a : Bool) (l u : Int) (t : _) : Sp3 (x.alloc (.cells #[.bool a, .int .i64 l, .int .i64 u] t)) x.heap.size a l u :=
  ⟨by simp, by simp [go_sem], by simp [go_sem], by simp [go_sem], by simp [go_sem], by simp [go_sem], by simp [go_sem]⟩
theorem PF.made {w0 x : World} {bs : Bool} {s : Value} {V : Sp} {t : _} (h : PF w0 x false bs s V) (hb : Below w0.heap.size w0 x) (a : Bool) (l u : Int) :
    PF w0 (x.alloc (.cells #[.bool a, .int .i64 l, .int .i64 u] t)) true bs (.pointer (some ⟨x.heap.size, 0, none⟩)) V :=
  ⟨fun _ => rfl, fun _ => ⟨_, a, l, u, rfl, hb.size, sp3_new x a l u t, fun q => by have := h.ord q; cases this⟩⟩
theorem PF.lt {w0 x : World} {b bs : Bool} {s : Value} {V : Sp} {m : Nat} (h : PF w0 x b bs s V) (q : b = true) (e : s = .pointer (some ⟨m, 0, none⟩)) : m < x.heap.size := by
  obtain ⟨m', a, l, u, e', _, h2, _⟩ := h.at_ q
  rw [e] at e'; injection e' with e'; injection e' with e'; injection e' with e'; rw [e']; exact h2.lt
/-- two pointers that the region has made are not the same -/
def Apart2 (b c : Bool) (s t : Value) : Prop := b = true → c = true → ∀ m : Nat, s = .pointer (some ⟨m, 0, none⟩) → t = .pointer (some ⟨m, 0, none⟩) → False
theorem Apart2.fst {w0 x : World} {c cs : Bool} {t : Value} {V : Sp} (h : PF w0 x c cs t V) : Apart2 true c (.pointer (some ⟨x.heap.size, 0, none⟩)) t := by
  intro _ hc m e1 e2
  have := h.lt hc e2
  injection e1 with e1; injection e1 with e1; injection e1 with e1
  omega
theorem Apart2.snd {w0 x : World} {c cs : Bool} {t : Value} {V : Sp} (h : PF w0 x c cs t V) : Apart2 c true t (.pointer (some ⟨x.heap.size, 0, none⟩)) := by
  intro hc _ m e1 e2
  have := h.lt hc e1
  injection e2 with e2; injection e2 with e2; injection e2 with e2
  omega
theorem PF.set {w0 x : World} {m : Nat} {a b : Bool} {l u k v : Int} (hw : w0.heap.size ≤ m) (h : Sp3 x m a l u) :
    PF w0 (((x.setCell ⟨m, 0, none⟩ (.bool b)).setCell ⟨m, 1, none⟩ (.int .i64 k)).setCell ⟨m, 2, none⟩ (.int .i64 v)) true true (.pointer (some ⟨m, 0, none⟩)) (b, k, v) :=
  ⟨fun _ => rfl, fun _ => ⟨m, b, k, v, rfl, hw, h.set, fun _ => rfl⟩⟩
theorem PF.off {w0 x : World} {m : Nat} {b : Bool} {k v : Int} {c cs : Bool} {t : Value} {V : Sp} (h : PF w0 x c cs t V) (ha : c = true → t = .pointer (some ⟨m, 0, none⟩) → False) :
    PF w0 (((x.setCell ⟨m, 0, none⟩ (.bool b)).setCell ⟨m, 1, none⟩ (.int .i64 k)).setCell ⟨m, 2, none⟩ (.int .i64 v)) c cs t V :=
  ⟨h.ord, fun q => by
    obtain ⟨m', a, l, u, e, h1, h2, h3⟩ := h.at_ q
    have hne : m' ≠ m := fun hh => ha q (by rw [e, hh])
    exact ⟨m', a, l, u, e, h1, ((h2.off hne).off hne).off hne, h3⟩⟩
theorem below_set3 {w0 x : World} {m : Nat} {v0 v1 v2 : Value} (h : Below w0.heap.size w0 x) (hm : w0.heap.size ≤ m) : Below w0.heap.size w0 (((x.setCell ⟨m, 0, none⟩ v0).setCell ⟨m, 1, none⟩ v1).setCell ⟨m, 2, none⟩ v2) :=
  ((h.setCell (p := ⟨m, 0, none⟩) hm _).setCell (p := ⟨m, 1, none⟩) hm _).setCell (p := ⟨m, 2, none⟩) hm _
end Go.Proofs.Ytdomalclpjijaaa

/-
  Both SpanDo, and both SpanWhen, answer one span, or two, whatever the world: what these are is said beside it.
-/
namespace Go.Proofs.Ytdomalclpjijaaa
open Go.RowKit
set_option linter.unusedVariables false
set_option linter.unusedSimpArgs false

/-- calls whose answer has a name -/
theorem join_at {a b p : Bool} {al ah bl bh pl ph : Int} (h : joinF a al ah b bl bh = (p, pl, ph)) (w : World) : Calls Try.prog 35 #[.agg #[.bool a, .int .i64 al, .int .i64 ah], .agg #[.bool b, .int .i64 bl, .int .i64 bh]] w fun e w' => e = .returned (.agg #[.bool p, .int .i64 pl, .int .i64 ph]) ∧ Below w.heap.size w w' :=
  (join_impl a al ah b bl bh w).mono fun e w' ⟨h1, h2⟩ => ⟨by rw [h] at h1; exact h1, h2⟩
theorem ok_at {a o : Bool} {l u : Int} (h : okF a l u = o) (w : World) : Calls Try.prog 65 #[.agg #[.bool a, .int .i64 l, .int .i64 u]] w fun e w' => e = .returned (.bool o) ∧ Below w.heap.size w w' :=
  (ok_spec a l u w).mono fun e w' ⟨h1, h2⟩ => ⟨by rw [h] at h1; exact h1, h2⟩
theorem in_at {a b o : Bool} {al ah bl bh : Int} (h : inF a al ah b bl bh = o) (w : World) : Calls Try.prog 50 #[.agg #[.bool a, .int .i64 al, .int .i64 ah], .agg #[.bool b, .int .i64 bl, .int .i64 bh]] w fun e w' => e = .returned (.bool o) ∧ Below w.heap.size w w' :=
  (in_impl a al ah b bl bh w).mono fun e w' ⟨h1, h2⟩ => ⟨by rw [h] at h1; exact h1, h2⟩
end Go.Proofs.Ytdomalclpjijaaa
