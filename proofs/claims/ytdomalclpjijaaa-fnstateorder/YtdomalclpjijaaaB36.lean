import Derived.Test.YtdomalclpjijaaaB4
import Derived.Test.YtdomalclpjijaaaB24
import Derived.Test.YtdomalclpjijaaaB10
import Derived.Test.YtdomalclpjijaaaB33
import Derived.Test.YtdomalclpjijaaaB35
/-
  The walk of the law FnExactStateOk.
-/
namespace Go.Proofs.Ytdomalclpjijaaa
open Go.RowKit
set_option linter.unusedVariables false
set_option linter.unusedSimpArgs false

/-- two boxes of five cells that stand -/
theorem keepBB {w x y : World} {m n : Nat} {v0 v1 v2 v3 v4 u0 u1 u2 u3 u4 : Value}
    (h : Below w.heap.size w x ∧ m < x.heap.size ∧ n < x.heap.size ∧ x.cell? ⟨m, 0, none⟩ = some v0 ∧ x.cell? ⟨m, 1, none⟩ = some v1 ∧ x.cell? ⟨m, 2, none⟩ = some v2 ∧ x.cell? ⟨m, 3, none⟩ = some v3 ∧ x.cell? ⟨m, 4, none⟩ = some v4 ∧ x.cell? ⟨n, 0, none⟩ = some u0 ∧ x.cell? ⟨n, 1, none⟩ = some u1 ∧ x.cell? ⟨n, 2, none⟩ = some u2 ∧ x.cell? ⟨n, 3, none⟩ = some u3 ∧ x.cell? ⟨n, 4, none⟩ = some u4)
    (hb : Below x.heap.size x y) :
    Below w.heap.size w y ∧ m < y.heap.size ∧ n < y.heap.size ∧ y.cell? ⟨m, 0, none⟩ = some v0 ∧ y.cell? ⟨m, 1, none⟩ = some v1 ∧ y.cell? ⟨m, 2, none⟩ = some v2 ∧ y.cell? ⟨m, 3, none⟩ = some v3 ∧ y.cell? ⟨m, 4, none⟩ = some v4 ∧ y.cell? ⟨n, 0, none⟩ = some u0 ∧ y.cell? ⟨n, 1, none⟩ = some u1 ∧ y.cell? ⟨n, 2, none⟩ = some u2 ∧ y.cell? ⟨n, 3, none⟩ = some u3 ∧ y.cell? ⟨n, 4, none⟩ = some u4 := by
  obtain ⟨h1, h2, h3, c0, c1, c2, c3, c4, d0, d1, d2, d3, d4⟩ := h
  have hz := hb.size
  exact ⟨h1.trans (hb.mono h1.size), by omega, by omega, (hb.cell (p := ⟨m, 0, none⟩) h2).trans c0, (hb.cell (p := ⟨m, 1, none⟩) h2).trans c1, (hb.cell (p := ⟨m, 2, none⟩) h2).trans c2, (hb.cell (p := ⟨m, 3, none⟩) h2).trans c3, (hb.cell (p := ⟨m, 4, none⟩) h2).trans c4, (hb.cell (p := ⟨n, 0, none⟩) h3).trans d0, (hb.cell (p := ⟨n, 1, none⟩) h3).trans d1, (hb.cell (p := ⟨n, 2, none⟩) h3).trans d2, (hb.cell (p := ⟨n, 3, none⟩) h3).trans d3, (hb.cell (p := ⟨n, 4, none⟩) h3).trans d4⟩

end Go.Proofs.Ytdomalclpjijaaa

/-
  A region 'made := F(toState(a), toState(b))' of a law: its seven operations in whatever order; what it leaves.
-/
namespace Go.Proofs.Ytdomalclpjijaaa
open Go.RowKit
set_option linter.unusedVariables false
set_option linter.unusedSimpArgs false

def aggV (a : Bool) (p : Option Addr) (n cap : Nat) (c : Sp) : Value := .agg #[.bool a, .slice p n cap, .bool c.1, .int .i64 c.2.1, .int .i64 c.2.2]
/-- s is a state that reads as (a, L, c), its row in blocks from B on and ahead of E -/
def AggAt (x : World) (B E : Nat) (a : Bool) (L : List Sp) (c : Sp) (s : Value) : Prop := ∃ p cap, s = aggV a p L.length cap c ∧ SpsAt true x B E (.slice p L.length cap) L
theorem AggAt.later {x y : World} {B E : Nat} {a : Bool} {L : List Sp} {c : Sp} {s : Value} (h : AggAt x B E a L c s) (hb : Below x.heap.size x y) : AggAt y B E a L c s := by
  obtain ⟨p, cap, e, hs⟩ := h
  exact ⟨p, cap, e, hs.later hb⟩
theorem AggAt.grow {x y : World} {B : Nat} {a : Bool} {L : List Sp} {c : Sp} {s : Value} (h : AggAt x B x.heap.size a L c s) (hb : Below x.heap.size x y) : AggAt y B y.heap.size a L c s := by
  obtain ⟨p, cap, e, hs⟩ := h
  exact ⟨p, cap, e, (hs.later hb).wide (Nat.le_refl _) hb.size (Nat.le_refl _)⟩
theorem AggAt.of {y : World} {B C : Nat} {a : Bool} {v : Value} {L : List Sp} {c : Bool} {l u : Int} (h : SpsAt true y B y.heap.size v L) (hc : C ≤ B) : AggAt y C y.heap.size a L (c, l, u) (.agg #[.bool a, v, .bool c, .int .i64 l, .int .i64 u]) := by
  obtain ⟨p, cap, rfl⟩ := h.shape
  exact ⟨p, cap, rfl, h.wide hc (Nat.le_refl _) (Nat.le_refl _)⟩
/-- a box that holds a state, its row somewhere above -/
def BoxAt (x : World) (n : Nat) (r : St) (s : Value) : Prop := ∃ m p cap, s = .pointer (some ⟨m, 0, none⟩) ∧ n ≤ m ∧ Bx5 x m (.bool r.1) (.slice p r.2.1.length cap) (.bool r.2.2.1) (.int .i64 r.2.2.2.1) (.int .i64 r.2.2.2.2) ∧ SpsAt true x n x.heap.size (.slice p r.2.1.length cap) r.2.1
structure GI (mk : Value → Value → Value → Value → Value → Value → Act) (w0 : World) (A0 A2 : Value) (a : Bool) (L : List Sp) (c : Sp) (b : Bool) (M : List Sp) (d : Sp) (r : St) (listed : Array Bool) (act : Act) (x : World) (b0 b1 b2 b3 b4 b5 b6 : Bool) (s0 s1 s2 s3 s4 s5 : Value) : Prop where
  listed_eq : listed = #[b0, b1, b2, b3, b4, b5, b6]
  act_eq : act = mk s0 s1 s2 s3 s4 s5
  below : Below w0.heap.size w0 x
  h0 : Slot b0 s0 A0
  h2 : Slot b2 s2 A2
  all : b6 = true → b0 = true ∧ b1 = true ∧ b2 = true ∧ b3 = true ∧ b4 = true ∧ b5 = true
  h1 : b6 = false → b1 = true → AggAt x w0.heap.size x.heap.size a L c s1
  h3 : b6 = false → b3 = true → AggAt x w0.heap.size x.heap.size b M d s3
  h4 : b6 = false → b4 = true → ∃ B E, w0.heap.size ≤ B ∧ E ≤ x.heap.size ∧ AggAt x B E r.1 r.2.1 r.2.2 s4 ∧ (b5 = true → ∀ m, s5 = .pointer (some ⟨m, 0, none⟩) → m < B ∨ E ≤ m)
  h5 : b6 = false → b5 = true → ∃ m, s5 = .pointer (some ⟨m, 0, none⟩) ∧ w0.heap.size ≤ m ∧ Bx5 x m (.bool false) (.slice none 0 0) (.bool false) (.int .i64 0) (.int .i64 0)
  h6 : b6 = true → BoxAt x w0.heap.size r s5
def GJ (mk : Value → Value → Value → Value → Value → Value → Act) (w0 : World) (A0 A2 : Value) (a : Bool) (L : List Sp) (c : Sp) (b : Bool) (M : List Sp) (d : Sp) (r : St) (listed : Array Bool) (act : Act) (x : World) : Prop :=
  ∃ b0 b1 b2 b3 b4 b5 b6 s0 s1 s2 s3 s4 s5, GI mk w0 A0 A2 a L c b M d r listed act x b0 b1 b2 b3 b4 b5 b6 s0 s1 s2 s3 s4 s5
theorem wp_named {P : Program} {cd : Code} {Q : Exit → Act → World → Prop} {a : Act} {w : World} (h : ∀ a0, a0 = a → cd.wp P Q a0 w) : cd.wp P Q a w := h a rfl
section
variable {mk : Value → Value → Value → Value → Value → Value → Act} {w0 x y : World} {A0 A2 : Value} {a : Bool} {L : List Sp} {c : Sp} {b : Bool} {M : List Sp} {d : Sp} {r : St} {listed : Array Bool} {act : Act} {b0 b1 b2 b3 b4 b5 b6 : Bool} {s0 s1 s2 s3 s4 s5 : Value}
theorem GJ.start {act : Act} {w : World} (h : act = mk s0 s1 s2 s3 s4 s5) : GJ mk w A0 A2 a L c b M d r #[false, false, false, false, false, false, false] act w :=
  ⟨false, false, false, false, false, false, false, s0, s1, s2, s3, s4, s5, rfl, h, Below.refl _ _, Slot.no, Slot.no, (fun h => by cases h), (fun _ h => by cases h), (fun _ h => by cases h), (fun _ h => by cases h), (fun _ h => by cases h), (fun h => by cases h)⟩
/-- what stands stands in a later world -/
theorem GI.grow (h : GI mk w0 A0 A2 a L c b M d r listed act x b0 b1 b2 b3 b4 b5 false s0 s1 s2 s3 s4 s5) (hb : Below x.heap.size x y) : GI mk w0 A0 A2 a L c b M d r listed act y b0 b1 b2 b3 b4 b5 false s0 s1 s2 s3 s4 s5 :=
  ⟨h.listed_eq, h.act_eq, h.below.trans (hb.mono h.below.size), h.h0, h.h2, h.all, fun q p => (h.h1 q p).grow hb, fun q p => (h.h3 q p).grow hb,
   fun q p => by obtain ⟨B, E, h1, h2, h3, h4⟩ := h.h4 q p; exact ⟨B, E, h1, Nat.le_trans h2 hb.size, h3.later hb, h4⟩,
   fun q p => by obtain ⟨m, h1, h2, h3⟩ := h.h5 q p; exact ⟨m, h1, h2, h3.later hb⟩, (fun h => by cases h)⟩
theorem GI.set0 (h : GI mk w0 A0 A2 a L c b M d r listed act x b0 b1 b2 b3 b4 b5 false s0 s1 s2 s3 s4 s5) {listed' : Array Bool} {act' : Act} (hl : listed' = #[true, b1, b2, b3, b4, b5, false]) (ha : act' = mk A0 s1 s2 s3 s4 s5) : GJ mk w0 A0 A2 a L c b M d r listed' act' x :=
  ⟨_, _, _, _, _, _, _, _, _, _, _, _, _, hl, ha, h.below, Slot.mk', h.h2, (fun h => by cases h), h.h1, h.h3, h.h4, h.h5, (fun h => by cases h)⟩
theorem GI.set2 (h : GI mk w0 A0 A2 a L c b M d r listed act x b0 b1 b2 b3 b4 b5 false s0 s1 s2 s3 s4 s5) {listed' : Array Bool} {act' : Act} (hl : listed' = #[b0, b1, true, b3, b4, b5, false]) (ha : act' = mk s0 s1 A2 s3 s4 s5) : GJ mk w0 A0 A2 a L c b M d r listed' act' x :=
  ⟨_, _, _, _, _, _, _, _, _, _, _, _, _, hl, ha, h.below, h.h0, Slot.mk', (fun h => by cases h), h.h1, h.h3, h.h4, h.h5, (fun h => by cases h)⟩
theorem GI.set1 (h : GI mk w0 A0 A2 a L c b M d r listed act x b0 b1 b2 b3 b4 b5 false s0 s1 s2 s3 s4 s5) {listed' : Array Bool} {act' : Act} {t : Value} (hl : listed' = #[b0, true, b2, b3, b4, b5, false]) (ha : act' = mk s0 t s2 s3 s4 s5) (ht : AggAt x w0.heap.size x.heap.size a L c t) : GJ mk w0 A0 A2 a L c b M d r listed' act' x :=
  ⟨_, _, _, _, _, _, _, _, _, _, _, _, _, hl, ha, h.below, h.h0, h.h2, (fun h => by cases h), fun _ _ => ht, h.h3, h.h4, h.h5, (fun h => by cases h)⟩
theorem GI.set3 (h : GI mk w0 A0 A2 a L c b M d r listed act x b0 b1 b2 b3 b4 b5 false s0 s1 s2 s3 s4 s5) {listed' : Array Bool} {act' : Act} {t : Value} (hl : listed' = #[b0, b1, b2, true, b4, b5, false]) (ha : act' = mk s0 s1 s2 t s4 s5) (ht : AggAt x w0.heap.size x.heap.size b M d t) : GJ mk w0 A0 A2 a L c b M d r listed' act' x :=
  ⟨_, _, _, _, _, _, _, _, _, _, _, _, _, hl, ha, h.below, h.h0, h.h2, (fun h => by cases h), h.h1, fun _ _ => ht, h.h4, h.h5, (fun h => by cases h)⟩
theorem GI.set4 (h : GI mk w0 A0 A2 a L c b M d r listed act x b0 b1 b2 b3 b4 b5 false s0 s1 s2 s3 s4 s5) {listed' : Array Bool} {act' : Act} {t : Value} (hb : Below x.heap.size x y) (hl : listed' = #[b0, b1, b2, b3, true, b5, false]) (ha : act' = mk s0 s1 s2 s3 t s5) (ht : AggAt y x.heap.size y.heap.size r.1 r.2.1 r.2.2 t) : GJ mk w0 A0 A2 a L c b M d r listed' act' y :=
  have g := h.grow hb
  ⟨_, _, _, _, _, _, _, _, _, _, _, _, _, hl, ha, g.below, g.h0, g.h2, (fun h => by cases h), g.h1, g.h3, fun _ _ => ⟨x.heap.size, y.heap.size, h.below.size, Nat.le_refl _, ht, fun q m e => by
    obtain ⟨m', e', _, hx⟩ := h.h5 rfl q
    rw [e] at e'; injection e' with e'; injection e' with e'; injection e' with e'
    have := hx.lt
    exact .inl (by omega)⟩, g.h5, (fun h => by cases h)⟩
theorem GI.set5 (h : GI mk w0 A0 A2 a L c b M d r listed act x b0 b1 b2 b3 b4 b5 false s0 s1 s2 s3 s4 s5) {listed' : Array Bool} {act' : Act} (t : TypeId) (hl : listed' = #[b0, b1, b2, b3, b4, true, false]) (ha : act' = mk s0 s1 s2 s3 s4 (.pointer (some ⟨x.heap.size, 0, none⟩))) :
    GJ mk w0 A0 A2 a L c b M d r listed' act' (x.alloc (.cells #[.bool false, .slice none 0 0, .bool false, .int .i64 0, .int .i64 0] t)) :=
  have hb : Below x.heap.size x (x.alloc (.cells #[.bool false, .slice none 0 0, .bool false, .int .i64 0, .int .i64 0] t)) := (Below.refl _ _).alloc (Nat.le_refl _) _
  have g := h.grow hb
  ⟨_, _, _, _, _, _, _, _, _, _, _, _, _, hl, ha, g.below, g.h0, g.h2, (fun h => by cases h), g.h1, g.h3, fun q p => by
    obtain ⟨B, E, h1, h2, h3, _⟩ := h.h4 q p
    exact ⟨B, E, h1, Nat.le_trans h2 hb.size, h3.later hb, fun _ m e => by
      injection e with e; injection e with e; injection e with e
      exact .inr (by omega)⟩, fun _ _ => ⟨x.heap.size, rfl, h.below.size, Bx5.new _ _ _ _ _ _ _⟩, (fun h => by cases h)⟩
theorem GI.set6 (h : GI mk w0 A0 A2 a L c b M d r listed act x b0 b1 b2 b3 b4 b5 false s0 s1 s2 s3 s4 s5) {listed' : Array Bool} {act' : Act} (q : b0 = true ∧ b1 = true ∧ b2 = true ∧ b3 = true ∧ b4 = true ∧ b5 = true) {m B E : Nat} {p : Option Addr} {cap : Nat} (e5 : s5 = .pointer (some ⟨m, 0, none⟩)) (hm : w0.heap.size ≤ m) (hx : Bx5 x m (.bool false) (.slice none 0 0) (.bool false) (.int .i64 0) (.int .i64 0)) (hB : w0.heap.size ≤ B) (hE : E ≤ x.heap.size)
    (hs : SpsAt true x B E (.slice p r.2.1.length cap) r.2.1) (hmB : m < B ∨ E ≤ m) (hl : listed' = #[b0, b1, b2, b3, b4, b5, true]) (ha : act' = mk s0 s1 s2 s3 s4 s5) :
    GJ mk w0 A0 A2 a L c b M d r listed' act' (((((x.setCell ⟨m, 0, none⟩ (.bool r.1)).setCell ⟨m, 1, none⟩ (.slice p r.2.1.length cap)).setCell ⟨m, 2, none⟩ (.bool r.2.2.1)).setCell ⟨m, 3, none⟩ (.int .i64 r.2.2.2.1)).setCell ⟨m, 4, none⟩ (.int .i64 r.2.2.2.2)) := by
  refine ⟨_, _, _, _, _, _, _, _, _, _, _, _, _, hl, ha, ?_, h.h0, h.h2, fun _ => q, (fun h => by cases h), (fun h => by cases h), (fun h => by cases h), (fun h => by cases h), fun _ => ⟨m, p, cap, e5, hm, fill5 hx _ _ _ _ _, ?_⟩⟩
  · exact ((((h.below.setCell (p := ⟨m, 0, none⟩) hm _).setCell (p := ⟨m, 1, none⟩) hm _).setCell (p := ⟨m, 2, none⟩) hm _).setCell (p := ⟨m, 3, none⟩) hm _).setCell (p := ⟨m, 4, none⟩) hm _
  · refine SpsAt.wide (B := B) (E := E) ?_ hB (by simpa using hE) (Nat.le_refl _)
    exact ((((hs.off hmB).off hmB).off hmB).off hmB).off hmB
end
end Go.Proofs.Ytdomalclpjijaaa
