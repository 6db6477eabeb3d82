import Derived.Test.YtdomalclpjijaaaB6
import Derived.Orders
import Derived.Test.YtdomalclpjijaaaB12
import Derived.Test.YtdomalclpjijaaaB9
import Derived.Test.YtdomalclpjijaaaB5
/-
  A region that draws its order and makes variables of three cells (InvA at those).
-/
namespace Go.Proofs.Ytdomalclpjijaaa
open Go.RowKit
set_option linter.unusedVariables false
set_option linter.unusedSimpArgs false

/-- A variable that a region makes and fills: whether it is made, whether it is filled, its slot, what it is filled with. -/
structure PF (w0 x : World) (b bs : Bool) (s : Value) (V : Sp) : Prop where
  ord : bs = true → b = true
  at_ : b = true → ∃ (m : Nat) (a : Bool) (l u : Int), s = .pointer (some ⟨m, 0, none⟩) ∧ w0.heap.size ≤ m ∧ Sp3 x m a l u ∧ (bs = true → (a, l, u) = V)

theorem PF.later {w0 x y : World} {b bs : Bool} {s : Value} {V : Sp} (h : PF w0 x b bs s V) (hb : Below x.heap.size x y) : PF w0 y b bs s V :=
  ⟨h.ord, fun q => by obtain ⟨m, a, l, u, e, h1, h2, h3⟩ := h.at_ q; exact ⟨m, a, l, u, e, h1, h2.later hb, h3⟩⟩
theorem PF.non {w0 x : World} {s : Value} {V : Sp} : PF w0 x false false s V := ⟨id, fun h => by cases h⟩
theorem sp3_new (x : World) (a : Bool) (l u : Int) (t : _) : Sp3 (x.alloc (.cells #[.bool a, .int .i64 l, .int .i64 u] t)) x.heap.size a l u :=
  ⟨by simp, by simp [go_sem], by simp [go_sem], by simp [go_sem], by simp [go_sem], by simp [go_sem], by simp [go_sem]⟩
theorem PF.made {w0 x : World} {bs : Bool} {s : Value} {V : Sp} {t : _} (h : PF w0 x false bs s V) (hb : Below w0.heap.size w0 x) (a : Bool) (l u : Int) :
    PF w0 (x.alloc (.cells #[.bool a, .int .i64 l, .int .i64 u] t)) true bs (.pointer (some ⟨x.heap.size, 0, none⟩)) V :=
  ⟨fun _ => rfl, fun _ => ⟨_, a, l, u, rfl, hb.size, sp3_new x a l u t, fun q => by have := h.ord q; cases this⟩⟩
theorem PF.lt {w0 x : World} {b bs : Bool} {s : Value} {V : Sp} {m : Nat} (h : PF w0 x b bs s V) (q : b = true) (e : s = .pointer (some ⟨m, 0, none⟩)) : m < x.heap.size := by
  obtain ⟨m', a, l, u, e', _, h2, _⟩ := h.at_ q
  rw [e] at e'; injection e' with e'; injection e' with e'; injection e' with e'; rw [e']; exact h2.lt
/-- two pointers that the region has made are not the same -/
def Apart2 (b c : Bool) (s t : Value) : Prop := b = true → c = true → ∀ m : Nat, s = .pointer (some ⟨m, 0, none⟩) → t = .pointer (some ⟨m, 0, none⟩) → False
theorem Apart2.fst {w0 x : World} {c cs : Bool} {t : Value} {V : Sp} (h : PF w0 x c cs t V) : Apart2 true c (.pointer (some ⟨x.heap.size, 0, none⟩)) t := by
  intro _ hc m e1 e2
  have := h.lt hc e2
  injection e1 with e1; injection e1 with e1; injection e1 with e1
  omega
theorem Apart2.snd {w0 x : World} {c cs : Bool} {t : Value} {V : Sp} (h : PF w0 x c cs t V) : Apart2 c true t (.pointer (some ⟨x.heap.size, 0, none⟩)) := by
  intro hc _ m e1 e2
  have := h.lt hc e1
  injection e2 with e2; injection e2 with e2; injection e2 with e2
  omega
theorem PF.set {w0 x : World} {m : Nat} {a b : Bool} {l u k v : Int} (hw : w0.heap.size ≤ m) (h : Sp3 x m a l u) :
    PF w0 (((x.setCell ⟨m, 0, none⟩ (.bool b)).setCell ⟨m, 1, none⟩ (.int .i64 k)).setCell ⟨m, 2, none⟩ (.int .i64 v)) true true (.pointer (some ⟨m, 0, none⟩)) (b, k, v) :=
  ⟨fun _ => rfl, fun _ => ⟨m, b, k, v, rfl, hw, h.set, fun _ => rfl⟩⟩
theorem PF.off {w0 x : World} {m : Nat} {b : Bool} {k v : Int} {c cs : Bool} {t : Value} {V : Sp} (h : PF w0 x c cs t V) (ha : c = true → t = .pointer (some ⟨m, 0, none⟩) → False) :
    PF w0 (((x.setCell ⟨m, 0, none⟩ (.bool b)).setCell ⟨m, 1, none⟩ (.int .i64 k)).setCell ⟨m, 2, none⟩ (.int .i64 v)) c cs t V :=
  ⟨h.ord, fun q => by
    obtain ⟨m', a, l, u, e, h1, h2, h3⟩ := h.at_ q
    have hne : m' ≠ m := fun hh => ha q (by rw [e, hh])
    exact ⟨m', a, l, u, e, h1, ((h2.off hne).off hne).off hne, h3⟩⟩
theorem below_set3 {w0 x : World} {m : Nat} {v0 v1 v2 : Value} (h : Below w0.heap.size w0 x) (hm : w0.heap.size ≤ m) : Below w0.heap.size w0 (((x.setCell ⟨m, 0, none⟩ v0).setCell ⟨m, 1, none⟩ v1).setCell ⟨m, 2, none⟩ v2) :=
  ((h.setCell (p := ⟨m, 0, none⟩) hm _).setCell (p := ⟨m, 1, none⟩) hm _).setCell (p := ⟨m, 2, none⟩) hm _
end Go.Proofs.Ytdomalclpjijaaa

/-
  Both SpanDo, and both SpanWhen, answer one span, or two, whatever the world: what these are is said beside it.
-/
namespace Go.Proofs.Ytdomalclpjijaaa
open Go.RowKit
set_option linter.unusedVariables false
set_option linter.unusedSimpArgs false

/-- calls whose answer has a name -/
theorem join_at {a b p : Bool} {al ah bl bh pl ph : Int} (h : joinF a al ah b bl bh = (p, pl, ph)) (w : World) : Calls Try.prog 35 #[.agg #[.bool a, .int .i64 al, .int .i64 ah], .agg #[.bool b, .int .i64 bl, .int .i64 bh]] w fun e w' => e = .returned (.agg #[.bool p, .int .i64 pl, .int .i64 ph]) ∧ Below w.heap.size w w' :=
  (join_impl a al ah b bl bh w).mono fun e w' ⟨h1, h2⟩ => ⟨by rw [h] at h1; exact h1, h2⟩
theorem ok_at {a o : Bool} {l u : Int} (h : okF a l u = o) (w : World) : Calls Try.prog 65 #[.agg #[.bool a, .int .i64 l, .int .i64 u]] w fun e w' => e = .returned (.bool o) ∧ Below w.heap.size w w' :=
  (ok_spec a l u w).mono fun e w' ⟨h1, h2⟩ => ⟨by rw [h] at h1; exact h1, h2⟩
theorem in_at {a b o : Bool} {al ah bl bh : Int} (h : inF a al ah b bl bh = o) (w : World) : Calls Try.prog 50 #[.agg #[.bool a, .int .i64 al, .int .i64 ah], .agg #[.bool b, .int .i64 bl, .int .i64 bh]] w fun e w' => e = .returned (.bool o) ∧ Below w.heap.size w w' :=
  (in_impl a al ah b bl bh w).mono fun e w' ⟨h1, h2⟩ => ⟨by rw [h] at h1; exact h1, h2⟩
end Go.Proofs.Ytdomalclpjijaaa

/-
  The contract of the model's SpanJoin.
-/
namespace Go.Proofs.Ytdomalclpjijaaa
open Go.RowKit
set_option linter.unusedVariables false
set_option linter.unusedSimpArgs false

set_option maxHeartbeats 1000000 in
theorem join_spec (a : Bool) (al ah : Int) (b : Bool) (bl bh : Int) (w : World) : Calls Try.prog 68 #[.agg #[.bool a, .int .i64 al, .int .i64 ah], .agg #[.bool b, .int .i64 bl, .int .i64 bh]] w fun e w' => RetSp (joinF a al ah b bl bh) e ∧ Below w.heap.size w w' := by
  cases ho1 : okF a al ah
  · go_enter Try.func68, Try.ntmps68
    go_wp2_with fail
    refine (ok_spec _ _ _ _).mono ?_
    rintro e w1 ⟨rfl, hr1⟩
    have hb1 : Below w.heap.size w w1 := ((((Below.refl _ _).alloc (by go_size) _).alloc (by go_size) _).alloc (by go_size) _).trans (hr1.mono (by go_size))
    have hz1 : w.heap.size + 3 ≤ w1.heap.size := by have := hr1.size; first | omega | (simp at this; omega)
    have hB1 : Below w.heap.size w w1 := hb1
    have c1x0o0 : w1.cell? ⟨w.heap.size, 0, none⟩ = some (.bool a) := (hr1.cell (p := ⟨w.heap.size, 0, none⟩) (by go_size)).trans (by simp [go_sem])
    have c1x0o1 : w1.cell? ⟨w.heap.size, 1, none⟩ = some (.int .i64 al) := (hr1.cell (p := ⟨w.heap.size, 1, none⟩) (by go_size)).trans (by simp [go_sem])
    have c1x0o2 : w1.cell? ⟨w.heap.size, 2, none⟩ = some (.int .i64 ah) := (hr1.cell (p := ⟨w.heap.size, 2, none⟩) (by go_size)).trans (by simp [go_sem])
    have c1x1o0 : w1.cell? ⟨w.heap.size + 1, 0, none⟩ = some (.bool b) := (hr1.cell (p := ⟨w.heap.size + 1, 0, none⟩) (by go_size)).trans (by simp [go_sem])
    have c1x1o1 : w1.cell? ⟨w.heap.size + 1, 1, none⟩ = some (.int .i64 bl) := (hr1.cell (p := ⟨w.heap.size + 1, 1, none⟩) (by go_size)).trans (by simp [go_sem])
    have c1x1o2 : w1.cell? ⟨w.heap.size + 1, 2, none⟩ = some (.int .i64 bh) := (hr1.cell (p := ⟨w.heap.size + 1, 2, none⟩) (by go_size)).trans (by simp [go_sem])
    have c1x2o0 : w1.cell? ⟨w.heap.size + 1 + 1, 0, none⟩ = some (.bool false) := (hr1.cell (p := ⟨w.heap.size + 1 + 1, 0, none⟩) (by go_size)).trans (by simp [go_sem])
    have f1x2o0 : w1.frozen? ⟨w.heap.size + 1 + 1, 0, none⟩ = false := (hr1.frozen (p := ⟨w.heap.size + 1 + 1, 0, none⟩) (by go_size)).trans (by simp [go_sem])
    have c1x2o1 : w1.cell? ⟨w.heap.size + 1 + 1, 1, none⟩ = some (.int .i64 0) := (hr1.cell (p := ⟨w.heap.size + 1 + 1, 1, none⟩) (by go_size)).trans (by simp [go_sem])
    have f1x2o1 : w1.frozen? ⟨w.heap.size + 1 + 1, 1, none⟩ = false := (hr1.frozen (p := ⟨w.heap.size + 1 + 1, 1, none⟩) (by go_size)).trans (by simp [go_sem])
    have c1x2o2 : w1.cell? ⟨w.heap.size + 1 + 1, 2, none⟩ = some (.int .i64 0) := (hr1.cell (p := ⟨w.heap.size + 1 + 1, 2, none⟩) (by go_size)).trans (by simp [go_sem])
    have f1x2o2 : w1.frozen? ⟨w.heap.size + 1 + 1, 2, none⟩ = false := (hr1.frozen (p := ⟨w.heap.size + 1 + 1, 2, none⟩) (by go_size)).trans (by simp [go_sem])
    have n1x0 : w.heap.size < w1.heap.size := by omega
    have n1x1 : w.heap.size + 1 < w1.heap.size := by omega
    have n1x2 : w.heap.size + 1 + 1 < w1.heap.size := by omega
    clear hr1 hb1
    simp only [ho1]
    go_wp2
    refine bodyPost_ret (v := .agg #[.bool false, .int .i64 0, .int .i64 0]) (by simp [results, Try.results68, go_sem, n1x0, n1x1, n1x2, c1x0o0, c1x0o1, c1x0o2, c1x1o0, c1x1o1, c1x1o2, c1x2o0, c1x2o1, c1x2o2]) rfl ⟨RetSp.mk (by simp [joinF, ho1, noSp]), ?_⟩
    go_grown
  · cases ho2 : okF b bl bh
    · go_enter Try.func68, Try.ntmps68
      go_wp2_with fail
      refine (ok_spec _ _ _ _).mono ?_
      rintro e w1 ⟨rfl, hr1⟩
      have hb1 : Below w.heap.size w w1 := ((((Below.refl _ _).alloc (by go_size) _).alloc (by go_size) _).alloc (by go_size) _).trans (hr1.mono (by go_size))
      have hz1 : w.heap.size + 3 ≤ w1.heap.size := by have := hr1.size; first | omega | (simp at this; omega)
      have hB1 : Below w.heap.size w w1 := hb1
      have c1x0o0 : w1.cell? ⟨w.heap.size, 0, none⟩ = some (.bool a) := (hr1.cell (p := ⟨w.heap.size, 0, none⟩) (by go_size)).trans (by simp [go_sem])
      have c1x0o1 : w1.cell? ⟨w.heap.size, 1, none⟩ = some (.int .i64 al) := (hr1.cell (p := ⟨w.heap.size, 1, none⟩) (by go_size)).trans (by simp [go_sem])
      have c1x0o2 : w1.cell? ⟨w.heap.size, 2, none⟩ = some (.int .i64 ah) := (hr1.cell (p := ⟨w.heap.size, 2, none⟩) (by go_size)).trans (by simp [go_sem])
      have c1x1o0 : w1.cell? ⟨w.heap.size + 1, 0, none⟩ = some (.bool b) := (hr1.cell (p := ⟨w.heap.size + 1, 0, none⟩) (by go_size)).trans (by simp [go_sem])
      have c1x1o1 : w1.cell? ⟨w.heap.size + 1, 1, none⟩ = some (.int .i64 bl) := (hr1.cell (p := ⟨w.heap.size + 1, 1, none⟩) (by go_size)).trans (by simp [go_sem])
      have c1x1o2 : w1.cell? ⟨w.heap.size + 1, 2, none⟩ = some (.int .i64 bh) := (hr1.cell (p := ⟨w.heap.size + 1, 2, none⟩) (by go_size)).trans (by simp [go_sem])
      have c1x2o0 : w1.cell? ⟨w.heap.size + 1 + 1, 0, none⟩ = some (.bool false) := (hr1.cell (p := ⟨w.heap.size + 1 + 1, 0, none⟩) (by go_size)).trans (by simp [go_sem])
      have f1x2o0 : w1.frozen? ⟨w.heap.size + 1 + 1, 0, none⟩ = false := (hr1.frozen (p := ⟨w.heap.size + 1 + 1, 0, none⟩) (by go_size)).trans (by simp [go_sem])
      have c1x2o1 : w1.cell? ⟨w.heap.size + 1 + 1, 1, none⟩ = some (.int .i64 0) := (hr1.cell (p := ⟨w.heap.size + 1 + 1, 1, none⟩) (by go_size)).trans (by simp [go_sem])
      have f1x2o1 : w1.frozen? ⟨w.heap.size + 1 + 1, 1, none⟩ = false := (hr1.frozen (p := ⟨w.heap.size + 1 + 1, 1, none⟩) (by go_size)).trans (by simp [go_sem])
      have c1x2o2 : w1.cell? ⟨w.heap.size + 1 + 1, 2, none⟩ = some (.int .i64 0) := (hr1.cell (p := ⟨w.heap.size + 1 + 1, 2, none⟩) (by go_size)).trans (by simp [go_sem])
      have f1x2o2 : w1.frozen? ⟨w.heap.size + 1 + 1, 2, none⟩ = false := (hr1.frozen (p := ⟨w.heap.size + 1 + 1, 2, none⟩) (by go_size)).trans (by simp [go_sem])
      have n1x0 : w.heap.size < w1.heap.size := by omega
      have n1x1 : w.heap.size + 1 < w1.heap.size := by omega
      have n1x2 : w.heap.size + 1 + 1 < w1.heap.size := by omega
      clear hr1 hb1
      simp only [ho1]
      go_wp2_with fail
      refine (ok_spec _ _ _ _).mono ?_
      rintro e w2 ⟨rfl, hr2⟩
      have hb2 : Below w1.heap.size w1 w2 := (Below.refl _ _).trans (hr2.mono (by go_size))
      have hz2 : w1.heap.size + 0 ≤ w2.heap.size := by have := hr2.size; first | omega | (simp at this; omega)
      have hB2 : Below w.heap.size w w2 := hB1.trans (hb2.mono (by go_size))
      have c2x0o0 : w2.cell? ⟨w.heap.size, 0, none⟩ = some (.bool a) := (hb2.cell (p := ⟨w.heap.size, 0, none⟩) (by go_size)).trans c1x0o0
      have c2x0o1 : w2.cell? ⟨w.heap.size, 1, none⟩ = some (.int .i64 al) := (hb2.cell (p := ⟨w.heap.size, 1, none⟩) (by go_size)).trans c1x0o1
      have c2x0o2 : w2.cell? ⟨w.heap.size, 2, none⟩ = some (.int .i64 ah) := (hb2.cell (p := ⟨w.heap.size, 2, none⟩) (by go_size)).trans c1x0o2
      have c2x1o0 : w2.cell? ⟨w.heap.size + 1, 0, none⟩ = some (.bool b) := (hb2.cell (p := ⟨w.heap.size + 1, 0, none⟩) (by go_size)).trans c1x1o0
      have c2x1o1 : w2.cell? ⟨w.heap.size + 1, 1, none⟩ = some (.int .i64 bl) := (hb2.cell (p := ⟨w.heap.size + 1, 1, none⟩) (by go_size)).trans c1x1o1
      have c2x1o2 : w2.cell? ⟨w.heap.size + 1, 2, none⟩ = some (.int .i64 bh) := (hb2.cell (p := ⟨w.heap.size + 1, 2, none⟩) (by go_size)).trans c1x1o2
      have c2x2o0 : w2.cell? ⟨w.heap.size + 1 + 1, 0, none⟩ = some (.bool false) := (hb2.cell (p := ⟨w.heap.size + 1 + 1, 0, none⟩) (by go_size)).trans c1x2o0
      have f2x2o0 : w2.frozen? ⟨w.heap.size + 1 + 1, 0, none⟩ = false := (hb2.frozen (p := ⟨w.heap.size + 1 + 1, 0, none⟩) (by go_size)).trans f1x2o0
      have c2x2o1 : w2.cell? ⟨w.heap.size + 1 + 1, 1, none⟩ = some (.int .i64 0) := (hb2.cell (p := ⟨w.heap.size + 1 + 1, 1, none⟩) (by go_size)).trans c1x2o1
      have f2x2o1 : w2.frozen? ⟨w.heap.size + 1 + 1, 1, none⟩ = false := (hb2.frozen (p := ⟨w.heap.size + 1 + 1, 1, none⟩) (by go_size)).trans f1x2o1
      have c2x2o2 : w2.cell? ⟨w.heap.size + 1 + 1, 2, none⟩ = some (.int .i64 0) := (hb2.cell (p := ⟨w.heap.size + 1 + 1, 2, none⟩) (by go_size)).trans c1x2o2
      have f2x2o2 : w2.frozen? ⟨w.heap.size + 1 + 1, 2, none⟩ = false := (hb2.frozen (p := ⟨w.heap.size + 1 + 1, 2, none⟩) (by go_size)).trans f1x2o2
      have n2x0 : w.heap.size < w2.heap.size := by omega
      have n2x1 : w.heap.size + 1 < w2.heap.size := by omega
      have n2x2 : w.heap.size + 1 + 1 < w2.heap.size := by omega
      clear n1x0 n1x1 n1x2 c1x0o0 c1x0o1 c1x0o2 c1x1o0 c1x1o1 c1x1o2 c1x2o0 c1x2o1 c1x2o2 f1x2o0 f1x2o1 f1x2o2
      clear hr2 hb2
      simp only [ho2]
      go_wp2
      refine bodyPost_ret (v := .agg #[.bool false, .int .i64 0, .int .i64 0]) (by simp [results, Try.results68, go_sem, n2x0, n2x1, n2x2, c2x0o0, c2x0o1, c2x0o2, c2x1o0, c2x1o1, c2x1o2, c2x2o0, c2x2o1, c2x2o2]) rfl ⟨RetSp.mk (by simp [joinF, ho1, ho2, noSp]), ?_⟩
      go_grown
    · cases a
      · go_enter Try.func68, Try.ntmps68
        go_wp2_with fail
        refine (ok_spec _ _ _ _).mono ?_
        rintro e w1 ⟨rfl, hr1⟩
        have hb1 : Below w.heap.size w w1 := ((((Below.refl _ _).alloc (by go_size) _).alloc (by go_size) _).alloc (by go_size) _).trans (hr1.mono (by go_size))
        have hz1 : w.heap.size + 3 ≤ w1.heap.size := by have := hr1.size; first | omega | (simp at this; omega)
        have hB1 : Below w.heap.size w w1 := hb1
        have c1x0o0 : w1.cell? ⟨w.heap.size, 0, none⟩ = some (.bool false) := (hr1.cell (p := ⟨w.heap.size, 0, none⟩) (by go_size)).trans (by simp [go_sem])
        have c1x0o1 : w1.cell? ⟨w.heap.size, 1, none⟩ = some (.int .i64 al) := (hr1.cell (p := ⟨w.heap.size, 1, none⟩) (by go_size)).trans (by simp [go_sem])
        have c1x0o2 : w1.cell? ⟨w.heap.size, 2, none⟩ = some (.int .i64 ah) := (hr1.cell (p := ⟨w.heap.size, 2, none⟩) (by go_size)).trans (by simp [go_sem])
        have c1x1o0 : w1.cell? ⟨w.heap.size + 1, 0, none⟩ = some (.bool b) := (hr1.cell (p := ⟨w.heap.size + 1, 0, none⟩) (by go_size)).trans (by simp [go_sem])
        have c1x1o1 : w1.cell? ⟨w.heap.size + 1, 1, none⟩ = some (.int .i64 bl) := (hr1.cell (p := ⟨w.heap.size + 1, 1, none⟩) (by go_size)).trans (by simp [go_sem])
        have c1x1o2 : w1.cell? ⟨w.heap.size + 1, 2, none⟩ = some (.int .i64 bh) := (hr1.cell (p := ⟨w.heap.size + 1, 2, none⟩) (by go_size)).trans (by simp [go_sem])
        have c1x2o0 : w1.cell? ⟨w.heap.size + 1 + 1, 0, none⟩ = some (.bool false) := (hr1.cell (p := ⟨w.heap.size + 1 + 1, 0, none⟩) (by go_size)).trans (by simp [go_sem])
        have f1x2o0 : w1.frozen? ⟨w.heap.size + 1 + 1, 0, none⟩ = false := (hr1.frozen (p := ⟨w.heap.size + 1 + 1, 0, none⟩) (by go_size)).trans (by simp [go_sem])
        have c1x2o1 : w1.cell? ⟨w.heap.size + 1 + 1, 1, none⟩ = some (.int .i64 0) := (hr1.cell (p := ⟨w.heap.size + 1 + 1, 1, none⟩) (by go_size)).trans (by simp [go_sem])
        have f1x2o1 : w1.frozen? ⟨w.heap.size + 1 + 1, 1, none⟩ = false := (hr1.frozen (p := ⟨w.heap.size + 1 + 1, 1, none⟩) (by go_size)).trans (by simp [go_sem])
        have c1x2o2 : w1.cell? ⟨w.heap.size + 1 + 1, 2, none⟩ = some (.int .i64 0) := (hr1.cell (p := ⟨w.heap.size + 1 + 1, 2, none⟩) (by go_size)).trans (by simp [go_sem])
        have f1x2o2 : w1.frozen? ⟨w.heap.size + 1 + 1, 2, none⟩ = false := (hr1.frozen (p := ⟨w.heap.size + 1 + 1, 2, none⟩) (by go_size)).trans (by simp [go_sem])
        have n1x0 : w.heap.size < w1.heap.size := by omega
        have n1x1 : w.heap.size + 1 < w1.heap.size := by omega
        have n1x2 : w.heap.size + 1 + 1 < w1.heap.size := by omega
        clear hr1 hb1
        simp only [ho1]
        go_wp2_with fail
        refine (ok_spec _ _ _ _).mono ?_
        rintro e w2 ⟨rfl, hr2⟩
        have hb2 : Below w1.heap.size w1 w2 := (Below.refl _ _).trans (hr2.mono (by go_size))
        have hz2 : w1.heap.size + 0 ≤ w2.heap.size := by have := hr2.size; first | omega | (simp at this; omega)
        have hB2 : Below w.heap.size w w2 := hB1.trans (hb2.mono (by go_size))
        have c2x0o0 : w2.cell? ⟨w.heap.size, 0, none⟩ = some (.bool false) := (hb2.cell (p := ⟨w.heap.size, 0, none⟩) (by go_size)).trans c1x0o0
        have c2x0o1 : w2.cell? ⟨w.heap.size, 1, none⟩ = some (.int .i64 al) := (hb2.cell (p := ⟨w.heap.size, 1, none⟩) (by go_size)).trans c1x0o1
        have c2x0o2 : w2.cell? ⟨w.heap.size, 2, none⟩ = some (.int .i64 ah) := (hb2.cell (p := ⟨w.heap.size, 2, none⟩) (by go_size)).trans c1x0o2
        have c2x1o0 : w2.cell? ⟨w.heap.size + 1, 0, none⟩ = some (.bool b) := (hb2.cell (p := ⟨w.heap.size + 1, 0, none⟩) (by go_size)).trans c1x1o0
        have c2x1o1 : w2.cell? ⟨w.heap.size + 1, 1, none⟩ = some (.int .i64 bl) := (hb2.cell (p := ⟨w.heap.size + 1, 1, none⟩) (by go_size)).trans c1x1o1
        have c2x1o2 : w2.cell? ⟨w.heap.size + 1, 2, none⟩ = some (.int .i64 bh) := (hb2.cell (p := ⟨w.heap.size + 1, 2, none⟩) (by go_size)).trans c1x1o2
        have c2x2o0 : w2.cell? ⟨w.heap.size + 1 + 1, 0, none⟩ = some (.bool false) := (hb2.cell (p := ⟨w.heap.size + 1 + 1, 0, none⟩) (by go_size)).trans c1x2o0
        have f2x2o0 : w2.frozen? ⟨w.heap.size + 1 + 1, 0, none⟩ = false := (hb2.frozen (p := ⟨w.heap.size + 1 + 1, 0, none⟩) (by go_size)).trans f1x2o0
        have c2x2o1 : w2.cell? ⟨w.heap.size + 1 + 1, 1, none⟩ = some (.int .i64 0) := (hb2.cell (p := ⟨w.heap.size + 1 + 1, 1, none⟩) (by go_size)).trans c1x2o1
        have f2x2o1 : w2.frozen? ⟨w.heap.size + 1 + 1, 1, none⟩ = false := (hb2.frozen (p := ⟨w.heap.size + 1 + 1, 1, none⟩) (by go_size)).trans f1x2o1
        have c2x2o2 : w2.cell? ⟨w.heap.size + 1 + 1, 2, none⟩ = some (.int .i64 0) := (hb2.cell (p := ⟨w.heap.size + 1 + 1, 2, none⟩) (by go_size)).trans c1x2o2
        have f2x2o2 : w2.frozen? ⟨w.heap.size + 1 + 1, 2, none⟩ = false := (hb2.frozen (p := ⟨w.heap.size + 1 + 1, 2, none⟩) (by go_size)).trans f1x2o2
        have n2x0 : w.heap.size < w2.heap.size := by omega
        have n2x1 : w.heap.size + 1 < w2.heap.size := by omega
        have n2x2 : w.heap.size + 1 + 1 < w2.heap.size := by omega
        clear n1x0 n1x1 n1x2 c1x0o0 c1x0o1 c1x0o2 c1x1o0 c1x1o1 c1x1o2 c1x2o0 c1x2o1 c1x2o2 f1x2o0 f1x2o1 f1x2o2
        clear hr2 hb2
        simp only [ho2]
        go_wp2
        refine bodyPost_ret (v := .agg #[.bool b, .int .i64 bl, .int .i64 bh]) (by simp [results, Try.results68, go_sem, n2x0, n2x1, n2x2, c2x0o0, c2x0o1, c2x0o2, c2x1o0, c2x1o1, c2x1o2, c2x2o0, c2x2o1, c2x2o2]) rfl ⟨RetSp.mk (by simp [joinF, ho1, ho2]), ?_⟩
        go_grown
      · cases b
        · go_enter Try.func68, Try.ntmps68
          go_wp2_with fail
          refine (ok_spec _ _ _ _).mono ?_
          rintro e w1 ⟨rfl, hr1⟩
          have hb1 : Below w.heap.size w w1 := ((((Below.refl _ _).alloc (by go_size) _).alloc (by go_size) _).alloc (by go_size) _).trans (hr1.mono (by go_size))
          have hz1 : w.heap.size + 3 ≤ w1.heap.size := by have := hr1.size; first | omega | (simp at this; omega)
          have hB1 : Below w.heap.size w w1 := hb1
          have c1x0o0 : w1.cell? ⟨w.heap.size, 0, none⟩ = some (.bool true) := (hr1.cell (p := ⟨w.heap.size, 0, none⟩) (by go_size)).trans (by simp [go_sem])
          have c1x0o1 : w1.cell? ⟨w.heap.size, 1, none⟩ = some (.int .i64 al) := (hr1.cell (p := ⟨w.heap.size, 1, none⟩) (by go_size)).trans (by simp [go_sem])
          have c1x0o2 : w1.cell? ⟨w.heap.size, 2, none⟩ = some (.int .i64 ah) := (hr1.cell (p := ⟨w.heap.size, 2, none⟩) (by go_size)).trans (by simp [go_sem])
          have c1x1o0 : w1.cell? ⟨w.heap.size + 1, 0, none⟩ = some (.bool false) := (hr1.cell (p := ⟨w.heap.size + 1, 0, none⟩) (by go_size)).trans (by simp [go_sem])
          have c1x1o1 : w1.cell? ⟨w.heap.size + 1, 1, none⟩ = some (.int .i64 bl) := (hr1.cell (p := ⟨w.heap.size + 1, 1, none⟩) (by go_size)).trans (by simp [go_sem])
          have c1x1o2 : w1.cell? ⟨w.heap.size + 1, 2, none⟩ = some (.int .i64 bh) := (hr1.cell (p := ⟨w.heap.size + 1, 2, none⟩) (by go_size)).trans (by simp [go_sem])
          have c1x2o0 : w1.cell? ⟨w.heap.size + 1 + 1, 0, none⟩ = some (.bool false) := (hr1.cell (p := ⟨w.heap.size + 1 + 1, 0, none⟩) (by go_size)).trans (by simp [go_sem])
          have f1x2o0 : w1.frozen? ⟨w.heap.size + 1 + 1, 0, none⟩ = false := (hr1.frozen (p := ⟨w.heap.size + 1 + 1, 0, none⟩) (by go_size)).trans (by simp [go_sem])
          have c1x2o1 : w1.cell? ⟨w.heap.size + 1 + 1, 1, none⟩ = some (.int .i64 0) := (hr1.cell (p := ⟨w.heap.size + 1 + 1, 1, none⟩) (by go_size)).trans (by simp [go_sem])
          have f1x2o1 : w1.frozen? ⟨w.heap.size + 1 + 1, 1, none⟩ = false := (hr1.frozen (p := ⟨w.heap.size + 1 + 1, 1, none⟩) (by go_size)).trans (by simp [go_sem])
          have c1x2o2 : w1.cell? ⟨w.heap.size + 1 + 1, 2, none⟩ = some (.int .i64 0) := (hr1.cell (p := ⟨w.heap.size + 1 + 1, 2, none⟩) (by go_size)).trans (by simp [go_sem])
          have f1x2o2 : w1.frozen? ⟨w.heap.size + 1 + 1, 2, none⟩ = false := (hr1.frozen (p := ⟨w.heap.size + 1 + 1, 2, none⟩) (by go_size)).trans (by simp [go_sem])
          have n1x0 : w.heap.size < w1.heap.size := by omega
          have n1x1 : w.heap.size + 1 < w1.heap.size := by omega
          have n1x2 : w.heap.size + 1 + 1 < w1.heap.size := by omega
          clear hr1 hb1
          simp only [ho1]
          go_wp2_with fail
          refine (ok_spec _ _ _ _).mono ?_
          rintro e w2 ⟨rfl, hr2⟩
          have hb2 : Below w1.heap.size w1 w2 := (Below.refl _ _).trans (hr2.mono (by go_size))
          have hz2 : w1.heap.size + 0 ≤ w2.heap.size := by have := hr2.size; first | omega | (simp at this; omega)
          have hB2 : Below w.heap.size w w2 := hB1.trans (hb2.mono (by go_size))
          have c2x0o0 : w2.cell? ⟨w.heap.size, 0, none⟩ = some (.bool true) := (hb2.cell (p := ⟨w.heap.size, 0, none⟩) (by go_size)).trans c1x0o0
          have c2x0o1 : w2.cell? ⟨w.heap.size, 1, none⟩ = some (.int .i64 al) := (hb2.cell (p := ⟨w.heap.size, 1, none⟩) (by go_size)).trans c1x0o1
          have c2x0o2 : w2.cell? ⟨w.heap.size, 2, none⟩ = some (.int .i64 ah) := (hb2.cell (p := ⟨w.heap.size, 2, none⟩) (by go_size)).trans c1x0o2
          have c2x1o0 : w2.cell? ⟨w.heap.size + 1, 0, none⟩ = some (.bool false) := (hb2.cell (p := ⟨w.heap.size + 1, 0, none⟩) (by go_size)).trans c1x1o0
          have c2x1o1 : w2.cell? ⟨w.heap.size + 1, 1, none⟩ = some (.int .i64 bl) := (hb2.cell (p := ⟨w.heap.size + 1, 1, none⟩) (by go_size)).trans c1x1o1
          have c2x1o2 : w2.cell? ⟨w.heap.size + 1, 2, none⟩ = some (.int .i64 bh) := (hb2.cell (p := ⟨w.heap.size + 1, 2, none⟩) (by go_size)).trans c1x1o2
          have c2x2o0 : w2.cell? ⟨w.heap.size + 1 + 1, 0, none⟩ = some (.bool false) := (hb2.cell (p := ⟨w.heap.size + 1 + 1, 0, none⟩) (by go_size)).trans c1x2o0
          have f2x2o0 : w2.frozen? ⟨w.heap.size + 1 + 1, 0, none⟩ = false := (hb2.frozen (p := ⟨w.heap.size + 1 + 1, 0, none⟩) (by go_size)).trans f1x2o0
          have c2x2o1 : w2.cell? ⟨w.heap.size + 1 + 1, 1, none⟩ = some (.int .i64 0) := (hb2.cell (p := ⟨w.heap.size + 1 + 1, 1, none⟩) (by go_size)).trans c1x2o1
          have f2x2o1 : w2.frozen? ⟨w.heap.size + 1 + 1, 1, none⟩ = false := (hb2.frozen (p := ⟨w.heap.size + 1 + 1, 1, none⟩) (by go_size)).trans f1x2o1
          have c2x2o2 : w2.cell? ⟨w.heap.size + 1 + 1, 2, none⟩ = some (.int .i64 0) := (hb2.cell (p := ⟨w.heap.size + 1 + 1, 2, none⟩) (by go_size)).trans c1x2o2
          have f2x2o2 : w2.frozen? ⟨w.heap.size + 1 + 1, 2, none⟩ = false := (hb2.frozen (p := ⟨w.heap.size + 1 + 1, 2, none⟩) (by go_size)).trans f1x2o2
          have n2x0 : w.heap.size < w2.heap.size := by omega
          have n2x1 : w.heap.size + 1 < w2.heap.size := by omega
          have n2x2 : w.heap.size + 1 + 1 < w2.heap.size := by omega
          clear n1x0 n1x1 n1x2 c1x0o0 c1x0o1 c1x0o2 c1x1o0 c1x1o1 c1x1o2 c1x2o0 c1x2o1 c1x2o2 f1x2o0 f1x2o1 f1x2o2
          clear hr2 hb2
          simp only [ho2]
          go_wp2
          refine bodyPost_ret (v := .agg #[.bool true, .int .i64 al, .int .i64 ah]) (by simp [results, Try.results68, go_sem, n2x0, n2x1, n2x2, c2x0o0, c2x0o1, c2x0o2, c2x1o0, c2x1o1, c2x1o2, c2x2o0, c2x2o1, c2x2o2]) rfl ⟨RetSp.mk (by simp [joinF, ho1, ho2]), ?_⟩
          go_grown
        · have hbd1 := (okF_bd ho1).2.2.2.2
          have hbd2 := (okF_bd ho2).2.2.2.2
          go_enter Try.func68, Try.ntmps68
          go_wp2_with fail
          refine (ok_spec _ _ _ _).mono ?_
          rintro e w1 ⟨rfl, hr1⟩
          have hb1 : Below w.heap.size w w1 := ((((Below.refl _ _).alloc (by go_size) _).alloc (by go_size) _).alloc (by go_size) _).trans (hr1.mono (by go_size))
          have hz1 : w.heap.size + 3 ≤ w1.heap.size := by have := hr1.size; first | omega | (simp at this; omega)
          have hB1 : Below w.heap.size w w1 := hb1
          have c1x0o0 : w1.cell? ⟨w.heap.size, 0, none⟩ = some (.bool true) := (hr1.cell (p := ⟨w.heap.size, 0, none⟩) (by go_size)).trans (by simp [go_sem])
          have c1x0o1 : w1.cell? ⟨w.heap.size, 1, none⟩ = some (.int .i64 al) := (hr1.cell (p := ⟨w.heap.size, 1, none⟩) (by go_size)).trans (by simp [go_sem])
          have c1x0o2 : w1.cell? ⟨w.heap.size, 2, none⟩ = some (.int .i64 ah) := (hr1.cell (p := ⟨w.heap.size, 2, none⟩) (by go_size)).trans (by simp [go_sem])
          have c1x1o0 : w1.cell? ⟨w.heap.size + 1, 0, none⟩ = some (.bool true) := (hr1.cell (p := ⟨w.heap.size + 1, 0, none⟩) (by go_size)).trans (by simp [go_sem])
          have c1x1o1 : w1.cell? ⟨w.heap.size + 1, 1, none⟩ = some (.int .i64 bl) := (hr1.cell (p := ⟨w.heap.size + 1, 1, none⟩) (by go_size)).trans (by simp [go_sem])
          have c1x1o2 : w1.cell? ⟨w.heap.size + 1, 2, none⟩ = some (.int .i64 bh) := (hr1.cell (p := ⟨w.heap.size + 1, 2, none⟩) (by go_size)).trans (by simp [go_sem])
          have c1x2o0 : w1.cell? ⟨w.heap.size + 1 + 1, 0, none⟩ = some (.bool false) := (hr1.cell (p := ⟨w.heap.size + 1 + 1, 0, none⟩) (by go_size)).trans (by simp [go_sem])
          have f1x2o0 : w1.frozen? ⟨w.heap.size + 1 + 1, 0, none⟩ = false := (hr1.frozen (p := ⟨w.heap.size + 1 + 1, 0, none⟩) (by go_size)).trans (by simp [go_sem])
          have c1x2o1 : w1.cell? ⟨w.heap.size + 1 + 1, 1, none⟩ = some (.int .i64 0) := (hr1.cell (p := ⟨w.heap.size + 1 + 1, 1, none⟩) (by go_size)).trans (by simp [go_sem])
          have f1x2o1 : w1.frozen? ⟨w.heap.size + 1 + 1, 1, none⟩ = false := (hr1.frozen (p := ⟨w.heap.size + 1 + 1, 1, none⟩) (by go_size)).trans (by simp [go_sem])
          have c1x2o2 : w1.cell? ⟨w.heap.size + 1 + 1, 2, none⟩ = some (.int .i64 0) := (hr1.cell (p := ⟨w.heap.size + 1 + 1, 2, none⟩) (by go_size)).trans (by simp [go_sem])
          have f1x2o2 : w1.frozen? ⟨w.heap.size + 1 + 1, 2, none⟩ = false := (hr1.frozen (p := ⟨w.heap.size + 1 + 1, 2, none⟩) (by go_size)).trans (by simp [go_sem])
          have n1x0 : w.heap.size < w1.heap.size := by omega
          have n1x1 : w.heap.size + 1 < w1.heap.size := by omega
          have n1x2 : w.heap.size + 1 + 1 < w1.heap.size := by omega
          clear hr1 hb1
          simp only [ho1]
          go_wp2_with fail
          refine (ok_spec _ _ _ _).mono ?_
          rintro e w2 ⟨rfl, hr2⟩
          have hb2 : Below w1.heap.size w1 w2 := (Below.refl _ _).trans (hr2.mono (by go_size))
          have hz2 : w1.heap.size + 0 ≤ w2.heap.size := by have := hr2.size; first | omega | (simp at this; omega)
          have hB2 : Below w.heap.size w w2 := hB1.trans (hb2.mono (by go_size))
          have c2x0o0 : w2.cell? ⟨w.heap.size, 0, none⟩ = some (.bool true) := (hb2.cell (p := ⟨w.heap.size, 0, none⟩) (by go_size)).trans c1x0o0
          have c2x0o1 : w2.cell? ⟨w.heap.size, 1, none⟩ = some (.int .i64 al) := (hb2.cell (p := ⟨w.heap.size, 1, none⟩) (by go_size)).trans c1x0o1
          have c2x0o2 : w2.cell? ⟨w.heap.size, 2, none⟩ = some (.int .i64 ah) := (hb2.cell (p := ⟨w.heap.size, 2, none⟩) (by go_size)).trans c1x0o2
          have c2x1o0 : w2.cell? ⟨w.heap.size + 1, 0, none⟩ = some (.bool true) := (hb2.cell (p := ⟨w.heap.size + 1, 0, none⟩) (by go_size)).trans c1x1o0
          have c2x1o1 : w2.cell? ⟨w.heap.size + 1, 1, none⟩ = some (.int .i64 bl) := (hb2.cell (p := ⟨w.heap.size + 1, 1, none⟩) (by go_size)).trans c1x1o1
          have c2x1o2 : w2.cell? ⟨w.heap.size + 1, 2, none⟩ = some (.int .i64 bh) := (hb2.cell (p := ⟨w.heap.size + 1, 2, none⟩) (by go_size)).trans c1x1o2
          have c2x2o0 : w2.cell? ⟨w.heap.size + 1 + 1, 0, none⟩ = some (.bool false) := (hb2.cell (p := ⟨w.heap.size + 1 + 1, 0, none⟩) (by go_size)).trans c1x2o0
          have f2x2o0 : w2.frozen? ⟨w.heap.size + 1 + 1, 0, none⟩ = false := (hb2.frozen (p := ⟨w.heap.size + 1 + 1, 0, none⟩) (by go_size)).trans f1x2o0
          have c2x2o1 : w2.cell? ⟨w.heap.size + 1 + 1, 1, none⟩ = some (.int .i64 0) := (hb2.cell (p := ⟨w.heap.size + 1 + 1, 1, none⟩) (by go_size)).trans c1x2o1
          have f2x2o1 : w2.frozen? ⟨w.heap.size + 1 + 1, 1, none⟩ = false := (hb2.frozen (p := ⟨w.heap.size + 1 + 1, 1, none⟩) (by go_size)).trans f1x2o1
          have c2x2o2 : w2.cell? ⟨w.heap.size + 1 + 1, 2, none⟩ = some (.int .i64 0) := (hb2.cell (p := ⟨w.heap.size + 1 + 1, 2, none⟩) (by go_size)).trans c1x2o2
          have f2x2o2 : w2.frozen? ⟨w.heap.size + 1 + 1, 2, none⟩ = false := (hb2.frozen (p := ⟨w.heap.size + 1 + 1, 2, none⟩) (by go_size)).trans f1x2o2
          have n2x0 : w.heap.size < w2.heap.size := by omega
          have n2x1 : w.heap.size + 1 < w2.heap.size := by omega
          have n2x2 : w.heap.size + 1 + 1 < w2.heap.size := by omega
          clear n1x0 n1x1 n1x2 c1x0o0 c1x0o1 c1x0o2 c1x1o0 c1x1o1 c1x1o2 c1x2o0 c1x2o1 c1x2o2 f1x2o0 f1x2o1 f1x2o2
          clear hr2 hb2
          simp only [ho2]
          go_wp2_with fail
          all_goals
            refine (l1Of_any _ _ _).mono ?_
            rintro e w3 ⟨hs3, hr3⟩
            obtain ⟨a3, l3, u3, hx3, rfl⟩ := hs3.out
            clear hs3
            have hb3 : Below w2.heap.size w2 w3 := (Below.refl _ _).trans (hr3.mono (by go_size))
            have hz3 : w2.heap.size + 0 ≤ w3.heap.size := by have := hr3.size; first | omega | (simp at this; omega)
            have hB3 : Below w.heap.size w w3 := hB2.trans (hb3.mono (by go_size))
            have c3x0o0 : w3.cell? ⟨w.heap.size, 0, none⟩ = some (.bool true) := (hb3.cell (p := ⟨w.heap.size, 0, none⟩) (by go_size)).trans c2x0o0
            have c3x0o1 : w3.cell? ⟨w.heap.size, 1, none⟩ = some (.int .i64 al) := (hb3.cell (p := ⟨w.heap.size, 1, none⟩) (by go_size)).trans c2x0o1
            have c3x0o2 : w3.cell? ⟨w.heap.size, 2, none⟩ = some (.int .i64 ah) := (hb3.cell (p := ⟨w.heap.size, 2, none⟩) (by go_size)).trans c2x0o2
            have c3x1o0 : w3.cell? ⟨w.heap.size + 1, 0, none⟩ = some (.bool true) := (hb3.cell (p := ⟨w.heap.size + 1, 0, none⟩) (by go_size)).trans c2x1o0
            have c3x1o1 : w3.cell? ⟨w.heap.size + 1, 1, none⟩ = some (.int .i64 bl) := (hb3.cell (p := ⟨w.heap.size + 1, 1, none⟩) (by go_size)).trans c2x1o1
            have c3x1o2 : w3.cell? ⟨w.heap.size + 1, 2, none⟩ = some (.int .i64 bh) := (hb3.cell (p := ⟨w.heap.size + 1, 2, none⟩) (by go_size)).trans c2x1o2
            have c3x2o0 : w3.cell? ⟨w.heap.size + 1 + 1, 0, none⟩ = some (.bool false) := (hb3.cell (p := ⟨w.heap.size + 1 + 1, 0, none⟩) (by go_size)).trans c2x2o0
            have f3x2o0 : w3.frozen? ⟨w.heap.size + 1 + 1, 0, none⟩ = false := (hb3.frozen (p := ⟨w.heap.size + 1 + 1, 0, none⟩) (by go_size)).trans f2x2o0
            have c3x2o1 : w3.cell? ⟨w.heap.size + 1 + 1, 1, none⟩ = some (.int .i64 0) := (hb3.cell (p := ⟨w.heap.size + 1 + 1, 1, none⟩) (by go_size)).trans c2x2o1
            have f3x2o1 : w3.frozen? ⟨w.heap.size + 1 + 1, 1, none⟩ = false := (hb3.frozen (p := ⟨w.heap.size + 1 + 1, 1, none⟩) (by go_size)).trans f2x2o1
            have c3x2o2 : w3.cell? ⟨w.heap.size + 1 + 1, 2, none⟩ = some (.int .i64 0) := (hb3.cell (p := ⟨w.heap.size + 1 + 1, 2, none⟩) (by go_size)).trans c2x2o2
            have f3x2o2 : w3.frozen? ⟨w.heap.size + 1 + 1, 2, none⟩ = false := (hb3.frozen (p := ⟨w.heap.size + 1 + 1, 2, none⟩) (by go_size)).trans f2x2o2
            have n3x0 : w.heap.size < w3.heap.size := by omega
            have n3x1 : w.heap.size + 1 < w3.heap.size := by omega
            have n3x2 : w.heap.size + 1 + 1 < w3.heap.size := by omega
            clear n2x0 n2x1 n2x2 c2x0o0 c2x0o1 c2x0o2 c2x1o0 c2x1o1 c2x1o2 c2x2o0 c2x2o1 c2x2o2 f2x2o0 f2x2o1 f2x2o2
            clear hr3 hb3
            go_wp2
            refine bodyPost_ret (v := .agg #[.bool a3, .int .i64 l3, .int .i64 u3]) (by simp [results, Try.results68, go_sem, n3x0, n3x1, n3x2, c3x0o0, c3x0o1, c3x0o2, c3x1o0, c3x1o1, c3x1o2, c3x2o0, c3x2o1, c3x2o2]) rfl ⟨RetSp.mk ((join_mk ho1 ho2 (by omega) (by omega)).trans hx3), ?_⟩
            go_grown

end Go.Proofs.Ytdomalclpjijaaa
