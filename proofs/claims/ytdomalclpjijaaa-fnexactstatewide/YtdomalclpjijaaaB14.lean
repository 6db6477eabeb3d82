import Derived.Test.YtdomalclpjijaaaB13
import Derived.Test.YtdomalclpjijaaaB10
import Derived.Test.YtdomalclpjijaaaB7
import Derived.Test.YtdomalclpjijaaaB9
import Derived.Deep.DrawnRows
/-
  The law FnExactSpanDo: both SpanDo answer the same at every op and every two spans; the walk of the law.
-/
namespace Go.Proofs.Ytdomalclpjijaaa
open Go.RowKit
set_option linter.unusedVariables false
set_option linter.unusedSimpArgs false

end Go.Proofs.Ytdomalclpjijaaa

/-
  The contract of the program's SpanWhen.
-/
namespace Go.Proofs.Ytdomalclpjijaaa
open Go.RowKit
set_option linter.unusedVariables false
set_option linter.unusedSimpArgs false
attribute [local go_sem ↓] Go.wp_at_zero Go.wp_at_succ

/-- the world while SpanWhen is at work -/
structure WhSt (w x : World) (al ah bl bh : Int) (s t : Sp) : Prop where
  bel : Below w.heap.size w x
  sa : Sp3 x w.heap.size true al ah
  sb : Sp3 x (w.heap.size + 1) true bl bh
  r1 : Sp3 x (w.heap.size + 1 + 1) false 0 0
  r2 : Sp3 x (w.heap.size + 1 + 1 + 1) false 0 0
  s1 : Sp3 x (w.heap.size + 1 + 1 + 1 + 1) s.1 s.2.1 s.2.2
  s2 : Sp3 x (w.heap.size + 1 + 1 + 1 + 1 + 1) t.1 t.2.1 t.2.2
theorem WhSt.later {w x y : World} {al ah bl bh : Int} {s t : Sp} (h : WhSt w x al ah bl bh s t) (hb : Below x.heap.size x y) : WhSt w y al ah bl bh s t :=
  ⟨h.bel.trans (hb.mono h.bel.size), h.sa.later hb, h.sb.later hb, h.r1.later hb, h.r2.later hb, h.s1.later hb, h.s2.later hb⟩
theorem WhSt.alloc {w x : World} {al ah bl bh : Int} {s t : Sp} (h : WhSt w x al ah bl bh s t) (b : _) : WhSt w (x.alloc b) al ah bl bh s t := h.later (Below.alloc (Below.refl _ _) (Nat.le_refl _) _)
theorem WhSt.drew {w x : World} {al ah bl bh : Int} {s t : Sp} (h : WhSt w x al ah bl bh s t) : WhSt w x.drew al ah bl bh s t := h.later (Below.drew (Below.refl _ _))
theorem WhSt.setA {w x : World} {al ah bl bh : Int} {s t : Sp} {a : Bool} {l u : Int} (h : WhSt w x al ah bl bh s t) : WhSt w (((x.setCell ⟨w.heap.size + 1 + 1 + 1 + 1, 0, none⟩ (.bool a)).setCell ⟨w.heap.size + 1 + 1 + 1 + 1, 1, none⟩ (.int .i64 l)).setCell ⟨w.heap.size + 1 + 1 + 1 + 1, 2, none⟩ (.int .i64 u)) al ah bl bh (a, l, u) t := by
  have n : ∀ m, m ≠ w.heap.size + 1 + 1 + 1 + 1 → ∀ {b : Bool} {k v : Int}, Sp3 x m b k v → Sp3 (((x.setCell ⟨w.heap.size + 1 + 1 + 1 + 1, 0, none⟩ (.bool a)).setCell ⟨w.heap.size + 1 + 1 + 1 + 1, 1, none⟩ (.int .i64 l)).setCell ⟨w.heap.size + 1 + 1 + 1 + 1, 2, none⟩ (.int .i64 u)) m b k v := fun m hm b k v h => ((h.off hm).off hm).off hm
  exact ⟨((h.bel.setCell (by simp; omega) _).setCell (by simp; omega) _).setCell (by simp; omega) _, n _ (by omega) h.sa, n _ (by omega) h.sb, n _ (by omega) h.r1, n _ (by omega) h.r2, h.s1.set, n _ (by omega) h.s2⟩
theorem WhSt.setB {w x : World} {al ah bl bh : Int} {s t : Sp} {a : Bool} {l u : Int} (h : WhSt w x al ah bl bh s t) : WhSt w (((x.setCell ⟨w.heap.size + 1 + 1 + 1 + 1 + 1, 0, none⟩ (.bool a)).setCell ⟨w.heap.size + 1 + 1 + 1 + 1 + 1, 1, none⟩ (.int .i64 l)).setCell ⟨w.heap.size + 1 + 1 + 1 + 1 + 1, 2, none⟩ (.int .i64 u)) al ah bl bh s (a, l, u) := by
  have n : ∀ m, m ≠ w.heap.size + 1 + 1 + 1 + 1 + 1 → ∀ {b : Bool} {k v : Int}, Sp3 x m b k v → Sp3 (((x.setCell ⟨w.heap.size + 1 + 1 + 1 + 1 + 1, 0, none⟩ (.bool a)).setCell ⟨w.heap.size + 1 + 1 + 1 + 1 + 1, 1, none⟩ (.int .i64 l)).setCell ⟨w.heap.size + 1 + 1 + 1 + 1 + 1, 2, none⟩ (.int .i64 u)) m b k v := fun m hm b k v h => ((h.off hm).off hm).off hm
  exact ⟨((h.bel.setCell (by simp; omega) _).setCell (by simp; omega) _).setCell (by simp; omega) _, n _ (by omega) h.sa, n _ (by omega) h.sb, n _ (by omega) h.r1, n _ (by omega) h.r2, n _ (by omega) h.s1, h.s2.set⟩

/-- what SpanWhen hands back -/
def WhRet (op : Int) (a : Bool) (al ah : Int) (b : Bool) (bl bh : Int) (yes : Bool) (w : World) (e : Ending) (w' : World) : Prop :=
  ∃ s t : Sp, WhenIs op a al ah b bl bh yes s t ∧ e = .returned (.tuple #[.agg #[.bool s.1, .int .i64 s.2.1, .int .i64 s.2.2], .agg #[.bool t.1, .int .i64 t.2.1, .int .i64 t.2.2]]) ∧ Below w.heap.size w w'

theorem hull_eq {T : Int → Prop} {s t : Sp} {n : Int} (h : Hull T (addS s n)) (e : addF s.1 s.2.1 s.2.2 n = t) : Hull T t := by rw [← e]; exact h
theorem give_when {op a b : Int} (h : op = 5 ∨ op = 6) : giveF op a b = rawF op a b := give_can (by simp [canF]; omega)

end Go.Proofs.Ytdomalclpjijaaa
