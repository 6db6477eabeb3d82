import Derived.Test.YtdomalclpjijaaaB16
import Derived.Test.YtdomalclpjijaaaB12
/-
  The contract of the model's SpanWhen.
-/
namespace Go.Proofs.Ytdomalclpjijaaa
open Go.RowKit
set_option linter.unusedVariables false
set_option linter.unusedSimpArgs false

theorem retsp_mk {lo hi lo' hi' : Int} {e : Ending} (h : RetSp (mkF lo hi) e) (h1 : lo' = lo) (h2 : hi' = hi) : RetSp (mkF lo' hi') e := by rw [h1, h2]; exact h

end Go.Proofs.Ytdomalclpjijaaa

/-
  The contract of the model's SpanWhen: where both spans are not none, and else.
-/
namespace Go.Proofs.Ytdomalclpjijaaa
open Go.RowKit
set_option linter.unusedVariables false
set_option linter.unusedSimpArgs false

/-- the world of the model's SpanWhen -/
structure QSt (w x : World) (g h : Nat) (al ah bl bh : Int) (s t : Sp) : Prop where
  bel : Below w.heap.size w x
  g0 : w.heap.size + 1 + 1 + 1 < g
  h0 : g < h
  sa : Sp3 x w.heap.size true al ah
  sb : Sp3 x (w.heap.size + 1) true bl bh
  r1 : Sp3 x (w.heap.size + 1 + 1) false 0 0
  r2 : Sp3 x (w.heap.size + 1 + 1 + 1) false 0 0
  s1 : Sp3 x g s.1 s.2.1 s.2.2
  s2 : Sp3 x h t.1 t.2.1 t.2.2
theorem QSt.later {w x y : World} {g h : Nat} {al ah bl bh : Int} {s t : Sp} (q : QSt w x g h al ah bl bh s t) (hb : Below x.heap.size x y) : QSt w y g h al ah bl bh s t :=
  ⟨q.bel.trans (hb.mono q.bel.size), q.g0, q.h0, q.sa.later hb, q.sb.later hb, q.r1.later hb, q.r2.later hb, q.s1.later hb, q.s2.later hb⟩
theorem QSt.setA {w x : World} {g h : Nat} {al ah bl bh : Int} {s t : Sp} {a : Bool} {l u : Int} (q : QSt w x g h al ah bl bh s t) : QSt w (((x.setCell ⟨g, 0, none⟩ (.bool a)).setCell ⟨g, 1, none⟩ (.int .i64 l)).setCell ⟨g, 2, none⟩ (.int .i64 u)) g h al ah bl bh (a, l, u) t := by
  have h1 := q.g0
  have h2 := q.h0
  have n : ∀ m, m ≠ g → ∀ {b : Bool} {k v : Int}, Sp3 x m b k v → Sp3 (((x.setCell ⟨g, 0, none⟩ (.bool a)).setCell ⟨g, 1, none⟩ (.int .i64 l)).setCell ⟨g, 2, none⟩ (.int .i64 u)) m b k v := fun m hm b k v h => ((h.off hm).off hm).off hm
  exact ⟨((q.bel.setCell (by simp; omega) _).setCell (by simp; omega) _).setCell (by simp; omega) _, h1, h2, n _ (by omega) q.sa, n _ (by omega) q.sb, n _ (by omega) q.r1, n _ (by omega) q.r2, q.s1.set, n _ (by omega) q.s2⟩
theorem QSt.setB {w x : World} {g h : Nat} {al ah bl bh : Int} {s t : Sp} {a : Bool} {l u : Int} (q : QSt w x g h al ah bl bh s t) : QSt w (((x.setCell ⟨h, 0, none⟩ (.bool a)).setCell ⟨h, 1, none⟩ (.int .i64 l)).setCell ⟨h, 2, none⟩ (.int .i64 u)) g h al ah bl bh s (a, l, u) := by
  have h1 := q.g0
  have h2 := q.h0
  have n : ∀ m, m ≠ h → ∀ {b : Bool} {k v : Int}, Sp3 x m b k v → Sp3 (((x.setCell ⟨h, 0, none⟩ (.bool a)).setCell ⟨h, 1, none⟩ (.int .i64 l)).setCell ⟨h, 2, none⟩ (.int .i64 u)) m b k v := fun m hm b k v h => ((h.off hm).off hm).off hm
  exact ⟨((q.bel.setCell (by simp; omega) _).setCell (by simp; omega) _).setCell (by simp; omega) _, h1, h2, n _ (by omega) q.sa, n _ (by omega) q.sb, n _ (by omega) q.r1, n _ (by omega) q.r2, n _ (by omega) q.s1, q.s2.set⟩

/-- what both answers are: where one of the two is none, none -/
theorem when_fin {op al ah bl bh : Int} {yes : Bool} {X Y : Sp} (hbo : bothF true al ah true bl bh = true) (ho : op = 5 ∨ op = 6) (hX : X = whenX op al ah bl bh yes) (hY : Y = whenY op al ah bl bh yes) :
    WhenIs op true al ah true bl bh yes X Y ∧ (X.1 = false ∨ Y.1 = false → WhenIs op true al ah true bl bh yes noSp noSp) := by
  obtain ⟨_, _, ha1, ha2, haa, hb1, hb2, hbb⟩ := both_t hbo
  have h1 : Hull (FstT op al ah bl bh yes) X := hX ▸ whenX_hull ho haa hbb
  have h2 : Hull (SndT op al ah bl bh yes) Y := hY ▸ whenY_hull ho haa hbb
  have w1 : WhenIs op true al ah true bl bh yes X Y := by
    refine ⟨fun h => ?_, fun _ _ => ⟨h1, h2⟩⟩
    rcases h with h | h
    · simp [hbo] at h
    · omega
  refine ⟨w1, fun h => ?_⟩
  obtain ⟨e1, e2⟩ := when_both h1 h2 h
  rw [e1, e2] at w1
  exact w1

end Go.Proofs.Ytdomalclpjijaaa
