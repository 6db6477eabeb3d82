/-
  A drawn state grows span by span while the reader's place turns.
-/
import Derived.Test.YtbmjjmbimfdkoaaDrawS
import Derived.Test.YtbmjjmbimfdkoaaSBK
namespace Go.Proofs.Ytbmjjmbimfdkoaa
open Go.RowKit
set_option linter.unusedVariables false
set_option linter.unusedSimpArgs false

theorem Drawn.bx5 {r B : Nat} {x y : World} (h : Drawn r B x y) {m : Nat} {v0 v1 v2 v3 v4 : Value} (hb : Bx5 x m v0 v1 v2 v3 v4) (hm : m ≠ r) : Bx5 y m v0 v1 v2 v3 v4 :=
  ⟨Nat.lt_of_lt_of_le hb.lt h.size, (h.cell m 0 hm hb.lt).trans hb.c0, (h.cell m 1 hm hb.lt).trans hb.c1, (h.cell m 2 hm hb.lt).trans hb.c2, (h.cell m 3 hm hb.lt).trans hb.c3, (h.cell m 4 hm hb.lt).trans hb.c4, fun k => (h.frozen m k hm hb.lt).trans (hb.fz k)⟩
theorem Drawn.owns {r B : Nat} {x y : World} (h : Drawn r B x y) {base size n : Nat} {e : TypeId} {v : Value} {xs : List Value} (ho : x.ownsRow base e size v n xs) (hr : r < base) : y.ownsRow base e size v n xs :=
  World.ownsRow.kept ho (row := some r) ⟨h.below.os, h.below.tape, h.below.output, h.size, fun k hk hne => h.blk k (fun e => hne (by rw [e])) hk⟩ (by
    cases hv : v.ownBlock with
    | none => simp
    | some k => have := (ho.lt k hv).1; simp; omega)
theorem Drawn.spn {r B : Nat} {x y : World} (h : Drawn r B x y) {g o : Nat} {s : Sp} (hs : Spn x g o s) (hg : g < x.heap.size) (hr : g ≠ r) : Spn y g o s :=
  ⟨(h.cell g _ hr hg).trans hs.c0, (h.cell g _ hr hg).trans hs.c1, (h.cell g _ hr hg).trans hs.c2⟩
theorem Drawn.sps {r B : Nat} {x y : World} (h : Drawn r B x y) {z : Bool} {C E : Nat} {v : Value} {L : List Sp} (hs : SpsAt z x C E v L) (hr : r < C) : SpsAt z y C E v L := by
  obtain ⟨p, cap, hv, hm, hq⟩ := hs
  refine ⟨p, cap, hv, hm, hq.imp id ?_⟩
  rintro ⟨g, o, hp, hB, hg, hE, hf, hj⟩
  exact ⟨g, o, hp, hB, hg, Nat.le_trans hE h.size, fun hz k => (h.frozen g k (by omega) (by omega)).trans (hf hz k), fun j hjl => h.spn (hj j hjl) (by omega) (by omega)⟩
def rowL (L : List Sp) : List Value := L.flatMap cs3
theorem rowL_snoc (L : List Sp) (s : Sp) : rowL (L ++ [s]) = rowL L ++ cs3 s := by simp [rowL]
/-- a drawn state: handed back in new memory, nothing else turned but the reader -/
structure GotSt (r B : Nat) (x : World) (e : Ending) (y : World) : Prop where
  it : ∃ (a : Bool) (L : List Sp) (c : Bool) (l u : Int) (p : Option Addr) (cap : Nat), e = .returned (.agg #[.bool a, .slice p L.length cap, .bool c, .int .i64 l, .int .i64 u]) ∧ L.length ≤ 3 ∧ SpsAt true y x.heap.size y.heap.size (.slice p L.length cap) L ∧ Drawn r B x y

/-- a state that grows: the reader, its box, the row of spans that it owns, the box of the result -/
structure GD (r B : Nat) (x y : World) (m : Nat) (p : Option Addr) (cap n : Nat) (L : List Sp) (c : Bool) (l u : Int) : Prop where
  drawn : Drawn r B x y
  box : Bx5 y m (.bool true) (.slice p n cap) (.bool c) (.int .i64 l) (.int .i64 u)
  own : y.ownsRow (m + 1) 30 3 (.slice p n cap) n (rowL L)
  res : Bx5 y x.heap.size (.bool false) (.slice none 0 0) (.bool false) (.int .i64 0) (.int .i64 0)
  lt : x.heap.size < m
  hr : r < x.heap.size
  len : L.length = n
theorem GD.draw {r B C : Nat} {x y z : World} {m : Nat} {p : Option Addr} {cap n : Nat} {L : List Sp} {c : Bool} {l u : Int} (h : GD r B x y m p cap n L c l u) (hd : Drawn r C y z) : GD r C x z m p cap n L c l u :=
  have h1 := h.lt
  have h2 := h.hr
  ⟨h.drawn.trans hd, hd.bx5 h.box (by omega), hd.owns h.own (by omega), hd.bx5 h.res (by omega), h1, h2, h.len⟩
theorem GD.app {r B C : Nat} {x y z : World} {m : Nat} {p : Option Addr} {cap n : Nat} {L : List Sp} {c : Bool} {l u : Int} (h : GD r B x y m p cap n L c l u) (hn : n ≤ 100) (ty : TypeId) (a : Bool) (k v : Int) (hd : Drawn r C y z) :
    ∃ p' cap' w', (Builtin.append_ #[29, 29] ty #[.slice p n cap, .slice (some ⟨z.heap.size, 0, none⟩) 1 1]).run Try.prog (z.alloc (.cells #[.bool a, .int .i64 k, .int .i64 v] 30)) = .ok (.slice p' (n + 1) cap') w' ∧
      m < z.heap.size ∧ z.cell? ⟨m, 1, none⟩ = some (.slice p n cap) ∧ w'.cell? ⟨m, 1, none⟩ = some (.slice p n cap) ∧ w'.frozen? ⟨m, 1, none⟩ = false ∧ Hid (GD r C x (w'.setCell ⟨m, 1, none⟩ (.slice p' (n + 1) cap')) m p' cap' (n + 1) (L ++ [(a, k, v)]) c l u) := by
  have hz := h.draw hd
  have hm := hz.box.lt
  obtain ⟨p', cap', w', hr, hbx, hown, hbel⟩ := app_step z ty m (m + 1) n _ _ _ _ _ (rowL L) a k v hz.box hz.own hn (by omega) hm
  have hl := h.lt
  have h2 := h.hr
  have hres : Bx5 w' x.heap.size (.bool false) (.slice none 0 0) (.bool false) (.int .i64 0) (.int .i64 0) := by
    have hB := hbel.out
    have hx : x.heap.size < m + 1 := by omega
    obtain ⟨_, c0, c1, c2, c3, c4, cf⟩ := hz.res
    exact ⟨by have := hB.size; omega, (hB.cell (p := ⟨x.heap.size, 0, none⟩) hx).trans c0, (hB.cell (p := ⟨x.heap.size, 1, none⟩) hx).trans c1, (hB.cell (p := ⟨x.heap.size, 2, none⟩) hx).trans c2, (hB.cell (p := ⟨x.heap.size, 3, none⟩) hx).trans c3, (hB.cell (p := ⟨x.heap.size, 4, none⟩) hx).trans c4, fun k => (hB.frozen (p := ⟨x.heap.size, k, none⟩) hx).trans (cf k)⟩
  have hsz := hbel.out.size
  exact ⟨p', cap', w', hr, hm, hz.box.c1, hbx.c1, hbx.fz 1, ⟨(hz.drawn.more hbel.out (by omega) h2).more ((Below.refl m w').setCell (p := ⟨m, 1, none⟩) (Nat.le_refl _) _) (by omega) h2, hbx.set1, by rw [rowL_snoc]; exact owns_off hown.out (by omega), hres.off (by omega), hl, h2, by simp [h.len]⟩⟩
theorem GD.drew {r B : Nat} {x y : World} {m : Nat} {p : Option Addr} {cap n : Nat} {L : List Sp} {c : Bool} {l u : Int} (h : GD r B x y m p cap n L c l u) : GD r B x y.drew m p cap n L c l u := h.draw (drawn_first h.drawn.rd).drewOne
/-- three spans that a row owns are read there -/
theorem GD.spans {r B : Nat} {x y : World} {m : Nat} {p : Option Addr} {cap : Nat} {L : List Sp} {c : Bool} {l u : Int} (h : GD r B x y m p cap 3 L c l u) : ∃ g, p = some ⟨g, 0, none⟩ ∧ m + 1 ≤ g ∧ g < y.heap.size ∧ 3 ≤ cap ∧ (∀ k, y.frozen? ⟨g, k, none⟩ = false) ∧ ∀ j, j < 3 → Spn y g (j * 3) (L.getD j noSp) := by
  have ho := h.own
  rcases h.own.2 with ⟨_, h0⟩ | ⟨g, cap', cur, hv, hg, hh, hc4, _⟩
  · omega
  injection hv with hp _ hc
  subst hp hc
  obtain ⟨s0, s1, s2, rfl⟩ := three_of h.len
  have hlt := (h.own.lt g rfl).2
  have hc := fun j hj => World.ownsRow.cellAt ho j hj
  refine ⟨g, rfl, hg, hlt, hc4, fun k => World.ownsRow.frozenAt ho k, fun j hj => ?_⟩
  match j, hj with
  | 0, _ => exact ⟨hc 0 (by omega), hc 1 (by omega), hc 2 (by omega)⟩
  | 1, _ => exact ⟨hc 3 (by omega), hc 4 (by omega), hc 5 (by omega)⟩
  | 2, _ => exact ⟨hc 6 (by omega), hc 7 (by omega), hc 8 (by omega)⟩
  | j + 3, hj => exact absurd hj (by omega)
end Go.Proofs.Ytbmjjmbimfdkoaa
