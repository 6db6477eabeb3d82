/-
  The contract of the program's SpanDo.
-/
import Derived.Test.YtbmjjmbimfdkoaaDoM
import Derived.Test.YtbmjjmbimfdkoaaJoin
namespace Go.Proofs.Ytbmjjmbimfdkoaa
open Go.RowKit
set_option linter.unusedVariables false
set_option linter.unusedSimpArgs false

/-- the cells of a span in block m -/
structure Sp3 (x : World) (m : Nat) (a : Bool) (l u : Int) : Prop where
  lt : m < x.heap.size
  c0 : x.cell? ⟨m, 0, none⟩ = some (.bool a)
  c1 : x.cell? ⟨m, 1, none⟩ = some (.int .i64 l)
  c2 : x.cell? ⟨m, 2, none⟩ = some (.int .i64 u)
  f0 : x.frozen? ⟨m, 0, none⟩ = false
  f1 : x.frozen? ⟨m, 1, none⟩ = false
  f2 : x.frozen? ⟨m, 2, none⟩ = false
theorem Sp3.later {x y : World} {m : Nat} {a : Bool} {l u : Int} (h : Sp3 x m a l u) (hb : Below x.heap.size x y) : Sp3 y m a l u :=
  ⟨Nat.lt_of_lt_of_le h.lt hb.size, (hb.cell (p := ⟨m, 0, none⟩) h.lt).trans h.c0, (hb.cell (p := ⟨m, 1, none⟩) h.lt).trans h.c1, (hb.cell (p := ⟨m, 2, none⟩) h.lt).trans h.c2, (hb.frozen (p := ⟨m, 0, none⟩) h.lt).trans h.f0, (hb.frozen (p := ⟨m, 1, none⟩) h.lt).trans h.f1, (hb.frozen (p := ⟨m, 2, none⟩) h.lt).trans h.f2⟩
theorem Sp3.alloc {x : World} {m : Nat} {a : Bool} {l u : Int} (h : Sp3 x m a l u) (b : _) : Sp3 (x.alloc b) m a l u := h.later (Below.alloc (Below.refl _ _) (Nat.le_refl _) _)
theorem Sp3.drew {x : World} {m : Nat} {a : Bool} {l u : Int} (h : Sp3 x m a l u) : Sp3 x.drew m a l u := h.later (Below.drew (Below.refl _ _))
/-- what is written into another block does not touch it -/
theorem Sp3.off {x : World} {m : Nat} {a : Bool} {l u : Int} (h : Sp3 x m a l u) {g o : Nat} {v : Value} (hne : m ≠ g) : Sp3 (x.setCell ⟨g, o, none⟩ v) m a l u := by
  obtain ⟨h0, h1, h2, h3, h4, h5, h6⟩ := h
  refine ⟨?_, ?_, ?_, ?_, ?_, ?_, ?_⟩
  all_goals first | (simp [go_sem]; done) | (simp [go_sem, hne, *]; done) | (simp [go_sem, Ne.symm hne, *]; done)
/-- a span is written over -/
theorem Sp3.set {x : World} {m : Nat} {a b : Bool} {l u k v : Int} (h : Sp3 x m a l u) : Sp3 (((x.setCell ⟨m, 0, none⟩ (.bool b)).setCell ⟨m, 1, none⟩ (.int .i64 k)).setCell ⟨m, 2, none⟩ (.int .i64 v)) m b k v := by
  obtain ⟨h0, h1, h2, h3, h4, h5, h6⟩ := h
  refine ⟨?_, ?_, ?_, ?_, ?_, ?_, ?_⟩
  all_goals first | (simp [go_sem]; done) | (simp [go_sem, *]; done)

/-- the world while SpanDo is at work: both spans, room for the answer, and what is given so far -/
structure DoSt (w x : World) (g : Nat) (al ah bl bh : Int) (s : Sp) : Prop where
  bel : Below w.heap.size w x
  gt : w.heap.size + 1 + 1 < g
  sa : Sp3 x w.heap.size true al ah
  sb : Sp3 x (w.heap.size + 1) true bl bh
  sr : Sp3 x (w.heap.size + 1 + 1) false 0 0
  sg : Sp3 x g s.1 s.2.1 s.2.2
theorem DoSt.later {w x y : World} {g : Nat} {al ah bl bh : Int} {s : Sp} (h : DoSt w x g al ah bl bh s) (hb : Below x.heap.size x y) : DoSt w y g al ah bl bh s :=
  ⟨h.bel.trans (hb.mono h.bel.size), h.gt, h.sa.later hb, h.sb.later hb, h.sr.later hb, h.sg.later hb⟩
theorem DoSt.set {w x : World} {g : Nat} {al ah bl bh : Int} {s t : Sp} (h : DoSt w x g al ah bl bh s) : DoSt w (((x.setCell ⟨g, 0, none⟩ (.bool t.1)).setCell ⟨g, 1, none⟩ (.int .i64 t.2.1)).setCell ⟨g, 2, none⟩ (.int .i64 t.2.2)) g al ah bl bh t := by
  have hg := h.gt
  have n0 : w.heap.size ≠ g := by omega
  have n1 : w.heap.size + 1 ≠ g := by omega
  have n2 : w.heap.size + 1 + 1 ≠ g := by omega
  exact ⟨((h.bel.setCell (by simp; omega) _).setCell (by simp; omega) _).setCell (by simp; omega) _, hg, ((h.sa.off n0).off n0).off n0, ((h.sb.off n1).off n1).off n1, ((h.sr.off n2).off n2).off n2, h.sg.set⟩

/-- what SpanDo hands back -/
def DoRet (op : Int) (a : Bool) (al ah : Int) (b : Bool) (bl bh : Int) (w : World) (e : Ending) (w' : World) : Prop := ∃ s, DoIs op a al ah b bl bh s ∧ RetSp s e ∧ Below w.heap.size w w'
theorem addS_eq (s : Sp) (n : Int) : addF s.1 s.2.1 s.2.2 n = addS s n := rfl
theorem both_t {a b : Bool} {al ah bl bh : Int} (h : bothF a al ah b bl bh = true) : a = true ∧ b = true ∧ -16 ≤ al ∧ ah ≤ 15 ∧ al ≤ ah ∧ -16 ≤ bl ∧ bh ≤ 15 ∧ bl ≤ bh := by
  simp only [bothF, Bool.and_eq_true] at h
  obtain ⟨⟨⟨h1, h2⟩, rfl⟩, rfl⟩ := h
  have e1 := okF_bd h1
  have e2 := okF_bd h2
  exact ⟨rfl, rfl, by omega, by omega, by omega, by omega, by omega, by omega⟩
theorem give_can {op a b : Int} (h : canF op b = true) : giveF op a b = rawF op a b := by simp [giveF, h]

end Go.Proofs.Ytbmjjmbimfdkoaa
