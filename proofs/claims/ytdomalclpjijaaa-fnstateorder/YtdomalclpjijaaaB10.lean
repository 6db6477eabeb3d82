import Derived.Test.YtdomalclpjijaaaB8
import Derived.Test.YtdomalclpjijaaaB7
import Derived.Deep.RegionHeld
import Derived.Deep.DeepCutAuto
/-
  The contracts of SpanMeet, the program's and the model's.
-/
namespace Go.Proofs.Ytdomalclpjijaaa
open Go.RowKit
set_option linter.unusedVariables false
set_option linter.unusedSimpArgs false

theorem meet_mk {a b : Bool} {al ah bl bh x y : Int} (h : bothF a al ah b bl bh = true) (hx : x = max al bl) (hy : y = min ah bh) : meetF a al ah b bl bh = mkF x y := by
  subst hx hy
  simp [meetF, h]
theorem meet_no {a b : Bool} {al ah bl bh : Int} (h : bothF a al ah b bl bh = false) : meetF a al ah b bl bh = (false, 0, 0) := by simp [meetF, h, noSp]
theorem mk_yes {x y : Int} (h : x ≤ y) : mkF x y = (true, x, y) := by unfold mkF; rw [if_neg (by omega)]
theorem mk_no {x y : Int} (h : y < x) : mkF x y = (false, 0, 0) := by unfold mkF; rw [if_pos h]; rfl
theorem both_parts (a : Bool) (al ah : Int) (b : Bool) (bl bh : Int) : bothF a al ah b bl bh = ((a && okF a al ah) && (b && okF b bl bh)) := by
  unfold bothF; cases a <;> cases b <;> simp [Bool.and_comm]

end Go.Proofs.Ytdomalclpjijaaa

/-
  What is held of the cells of spans while calls are made in an open order.
-/
namespace Go.Proofs.Ytdomalclpjijaaa
open Go.RowKit
set_option linter.unusedVariables false
set_option linter.unusedSimpArgs false
theorem keepS {w x y : World} {m n : Nat} {a b : Bool} {al ah bl bh : Int}
    (h : Below w.heap.size w x ∧ m < x.heap.size ∧ n < x.heap.size ∧ x.cell? ⟨m, 0, none⟩ = some (.bool a) ∧ x.cell? ⟨m, 1, none⟩ = some (.int .i64 al) ∧ x.cell? ⟨m, 2, none⟩ = some (.int .i64 ah) ∧ x.cell? ⟨n, 0, none⟩ = some (.bool b) ∧ x.cell? ⟨n, 1, none⟩ = some (.int .i64 bl) ∧ x.cell? ⟨n, 2, none⟩ = some (.int .i64 bh))
    (hb : Below x.heap.size x y) :
    Below w.heap.size w y ∧ m < y.heap.size ∧ n < y.heap.size ∧ y.cell? ⟨m, 0, none⟩ = some (.bool a) ∧ y.cell? ⟨m, 1, none⟩ = some (.int .i64 al) ∧ y.cell? ⟨m, 2, none⟩ = some (.int .i64 ah) ∧ y.cell? ⟨n, 0, none⟩ = some (.bool b) ∧ y.cell? ⟨n, 1, none⟩ = some (.int .i64 bl) ∧ y.cell? ⟨n, 2, none⟩ = some (.int .i64 bh) := by
  obtain ⟨h1, h2, h3, c0, c1, c2, d0, d1, d2⟩ := h
  have hz := hb.size
  have hz1 := h1.size
  exact ⟨h1.trans (hb.mono hz1), by omega, by omega, (hb.cell (p := ⟨m, 0, none⟩) h2).trans c0, (hb.cell (p := ⟨m, 1, none⟩) h2).trans c1, (hb.cell (p := ⟨m, 2, none⟩) h2).trans c2, (hb.cell (p := ⟨n, 0, none⟩) h3).trans d0, (hb.cell (p := ⟨n, 1, none⟩) h3).trans d1, (hb.cell (p := ⟨n, 2, none⟩) h3).trans d2⟩

theorem belowTrans {A x y : World} (h : Below A.heap.size A x) (hb : Below x.heap.size x y) : Below A.heap.size A y := h.trans (hb.mono h.size)
theorem below_lt {W w1 : World} (hb : Below W.heap.size W w1) : ∀ b, b < W.heap.size → b < w1.heap.size := fun b h => Nat.lt_of_lt_of_le h hb.size
theorem keepSet {w x : World} {m n q o : Nat} {v : Value} {a b : Bool} {al ah bl bh : Int}
    (h : Below w.heap.size w x ∧ m < x.heap.size ∧ n < x.heap.size ∧ x.cell? ⟨m, 0, none⟩ = some (.bool a) ∧ x.cell? ⟨m, 1, none⟩ = some (.int .i64 al) ∧ x.cell? ⟨m, 2, none⟩ = some (.int .i64 ah) ∧ x.cell? ⟨n, 0, none⟩ = some (.bool b) ∧ x.cell? ⟨n, 1, none⟩ = some (.int .i64 bl) ∧ x.cell? ⟨n, 2, none⟩ = some (.int .i64 bh))
    (hm : m < q) (hn : n < q) (hw : w.heap.size ≤ q) :
    Below w.heap.size w (x.setCell ⟨q, o, none⟩ v) ∧ m < (x.setCell ⟨q, o, none⟩ v).heap.size ∧ n < (x.setCell ⟨q, o, none⟩ v).heap.size ∧ (x.setCell ⟨q, o, none⟩ v).cell? ⟨m, 0, none⟩ = some (.bool a) ∧ (x.setCell ⟨q, o, none⟩ v).cell? ⟨m, 1, none⟩ = some (.int .i64 al) ∧ (x.setCell ⟨q, o, none⟩ v).cell? ⟨m, 2, none⟩ = some (.int .i64 ah) ∧ (x.setCell ⟨q, o, none⟩ v).cell? ⟨n, 0, none⟩ = some (.bool b) ∧ (x.setCell ⟨q, o, none⟩ v).cell? ⟨n, 1, none⟩ = some (.int .i64 bl) ∧ (x.setCell ⟨q, o, none⟩ v).cell? ⟨n, 2, none⟩ = some (.int .i64 bh) := by
  obtain ⟨h1, h2, h3, c0, c1, c2, d0, d1, d2⟩ := h
  have hb : Below q x (x.setCell ⟨q, o, none⟩ v) := (Below.refl q x).setCell (p := ⟨q, o, none⟩) (Nat.le_refl _) _
  have hz := hb.size
  exact ⟨h1.setCell hw _, by omega, by omega, (hb.cell (p := ⟨m, 0, none⟩) hm).trans c0, (hb.cell (p := ⟨m, 1, none⟩) hm).trans c1, (hb.cell (p := ⟨m, 2, none⟩) hm).trans c2, (hb.cell (p := ⟨n, 0, none⟩) hn).trans d0, (hb.cell (p := ⟨n, 1, none⟩) hn).trans d1, (hb.cell (p := ⟨n, 2, none⟩) hn).trans d2⟩


theorem keepT {w x y : World} {k n m : Nat} {a b j1 : Bool} {al ah bl bh j2 j3 : Int} (h : (Below w.heap.size w x ∧ k < x.heap.size ∧ n < x.heap.size ∧ x.cell? ⟨k, 0, none⟩ = some (.bool a) ∧ x.cell? ⟨k, 1, none⟩ = some (.int .i64 al) ∧ x.cell? ⟨k, 2, none⟩ = some (.int .i64 ah) ∧ x.cell? ⟨n, 0, none⟩ = some (.bool b) ∧ x.cell? ⟨n, 1, none⟩ = some (.int .i64 bl) ∧ x.cell? ⟨n, 2, none⟩ = some (.int .i64 bh)) ∧ (m < x.heap.size ∧ n < m ∧ x.cell? ⟨m, 0, none⟩ = some (.bool j1) ∧ x.cell? ⟨m, 1, none⟩ = some (.int .i64 j2) ∧ x.cell? ⟨m, 2, none⟩ = some (.int .i64 j3))) (hb : Below x.heap.size x y) : (Below w.heap.size w y ∧ k < y.heap.size ∧ n < y.heap.size ∧ y.cell? ⟨k, 0, none⟩ = some (.bool a) ∧ y.cell? ⟨k, 1, none⟩ = some (.int .i64 al) ∧ y.cell? ⟨k, 2, none⟩ = some (.int .i64 ah) ∧ y.cell? ⟨n, 0, none⟩ = some (.bool b) ∧ y.cell? ⟨n, 1, none⟩ = some (.int .i64 bl) ∧ y.cell? ⟨n, 2, none⟩ = some (.int .i64 bh)) ∧ (m < y.heap.size ∧ n < m ∧ y.cell? ⟨m, 0, none⟩ = some (.bool j1) ∧ y.cell? ⟨m, 1, none⟩ = some (.int .i64 j2) ∧ y.cell? ⟨m, 2, none⟩ = some (.int .i64 j3)) := by
  obtain ⟨h1, h2, h3, c0, c1, c2⟩ := h
  have hz := hb.size
  exact ⟨keepS h1 hb, by omega, h3, (hb.cell (p := ⟨m, 0, none⟩) h2).trans c0, (hb.cell (p := ⟨m, 1, none⟩) h2).trans c1, (hb.cell (p := ⟨m, 2, none⟩) h2).trans c2⟩
theorem keepTSet {w x : World} {k n m q o : Nat} {v : Value} {a b j1 : Bool} {al ah bl bh j2 j3 : Int} (h : (Below w.heap.size w x ∧ k < x.heap.size ∧ n < x.heap.size ∧ x.cell? ⟨k, 0, none⟩ = some (.bool a) ∧ x.cell? ⟨k, 1, none⟩ = some (.int .i64 al) ∧ x.cell? ⟨k, 2, none⟩ = some (.int .i64 ah) ∧ x.cell? ⟨n, 0, none⟩ = some (.bool b) ∧ x.cell? ⟨n, 1, none⟩ = some (.int .i64 bl) ∧ x.cell? ⟨n, 2, none⟩ = some (.int .i64 bh)) ∧ (m < x.heap.size ∧ n < m ∧ x.cell? ⟨m, 0, none⟩ = some (.bool j1) ∧ x.cell? ⟨m, 1, none⟩ = some (.int .i64 j2) ∧ x.cell? ⟨m, 2, none⟩ = some (.int .i64 j3))) (hm : k < q) (hn : n < q) (hw : w.heap.size ≤ q) (hq : m < q) :
    (Below w.heap.size w (x.setCell ⟨q, o, none⟩ v) ∧ k < (x.setCell ⟨q, o, none⟩ v).heap.size ∧ n < (x.setCell ⟨q, o, none⟩ v).heap.size ∧ (x.setCell ⟨q, o, none⟩ v).cell? ⟨k, 0, none⟩ = some (.bool a) ∧ (x.setCell ⟨q, o, none⟩ v).cell? ⟨k, 1, none⟩ = some (.int .i64 al) ∧ (x.setCell ⟨q, o, none⟩ v).cell? ⟨k, 2, none⟩ = some (.int .i64 ah) ∧ (x.setCell ⟨q, o, none⟩ v).cell? ⟨n, 0, none⟩ = some (.bool b) ∧ (x.setCell ⟨q, o, none⟩ v).cell? ⟨n, 1, none⟩ = some (.int .i64 bl) ∧ (x.setCell ⟨q, o, none⟩ v).cell? ⟨n, 2, none⟩ = some (.int .i64 bh)) ∧ (m < (x.setCell ⟨q, o, none⟩ v).heap.size ∧ n < m ∧ (x.setCell ⟨q, o, none⟩ v).cell? ⟨m, 0, none⟩ = some (.bool j1) ∧ (x.setCell ⟨q, o, none⟩ v).cell? ⟨m, 1, none⟩ = some (.int .i64 j2) ∧ (x.setCell ⟨q, o, none⟩ v).cell? ⟨m, 2, none⟩ = some (.int .i64 j3)) := by
  obtain ⟨h1, h2, h3, c0, c1, c2⟩ := h
  have hb : Below q x (x.setCell ⟨q, o, none⟩ v) := (Below.refl q x).setCell (p := ⟨q, o, none⟩) (Nat.le_refl _) _
  have hz := hb.size
  exact ⟨keepSet h1 hm hn hw, by omega, h3, (hb.cell (p := ⟨m, 0, none⟩) hq).trans c0, (hb.cell (p := ⟨m, 1, none⟩) hq).trans c1, (hb.cell (p := ⟨m, 2, none⟩) hq).trans c2⟩

end Go.Proofs.Ytdomalclpjijaaa
