import Derived.Test.YtdomalclpjijaaaB3
import Derived.WalkLawsBesides
import Derived.WalkSpells
import Derived.Deep.QuietTactic
import Derived.BigQuiet
import Derived.OwnWalk
import Derived.Deep.RegionHeld3
import Derived.Deep.DeepCutAuto
/-
  States in memory: what a slice of spans and a state read as; the contracts of the laws' own helpers that measure (szState) and copy one (toState).
-/
namespace Go.Proofs.Ytdomalclpjijaaa
open Go.RowKit
set_option linter.unusedVariables false
set_option linter.unusedSimpArgs false


def aggS (s : Sp) : Value := .agg #[.bool s.1, .int .i64 s.2.1, .int .i64 s.2.2]
/-- the three cells of a span -/
structure Spn (x : World) (g o : Nat) (s : Sp) : Prop where
  c0 : x.cell? ⟨g, o, none⟩ = some (.bool s.1)
  c1 : x.cell? ⟨g, o + 1, none⟩ = some (.int .i64 s.2.1)
  c2 : x.cell? ⟨g, o + 2, none⟩ = some (.int .i64 s.2.2)
/-- the slice value v reads as the spans L, in a block from B on and ahead of E; nothing of it is frozen, if z -/
def SpsAt (z : Bool) (x : World) (B E : Nat) (v : Value) (L : List Sp) : Prop :=
  ∃ p cap, v = .slice p L.length cap ∧ L.length ≤ maxLen ∧ (L.length = 0 ∨ ∃ g o, p = some ⟨g, o, none⟩ ∧ B ≤ g ∧ g < E ∧ E ≤ x.heap.size ∧ (z = true → ∀ k, x.frozen? ⟨g, k, none⟩ = false) ∧ ∀ j, j < L.length → Spn x g (o + j * 3) (L.getD j noSp))
theorem Spn.later {x y : World} {g o : Nat} {s : Sp} (h : Spn x g o s) (hb : Below x.heap.size x y) (hg : g < x.heap.size) : Spn y g o s :=
  ⟨(hb.cell (p := ⟨g, _, none⟩) hg).trans h.c0, (hb.cell (p := ⟨g, _, none⟩) hg).trans h.c1, (hb.cell (p := ⟨g, _, none⟩) hg).trans h.c2⟩
/-- what stands outside of what has changed still reads so -/
theorem SpsAt.stay {z : Bool} {x y : World} {B E : Nat} {v : Value} {L : List Sp} (h : SpsAt z x B E v L) (hs : x.heap.size ≤ y.heap.size) (hc : ∀ g o, B ≤ g → g < E → y.cell? ⟨g, o, none⟩ = x.cell? ⟨g, o, none⟩ ∧ y.frozen? ⟨g, o, none⟩ = x.frozen? ⟨g, o, none⟩) : SpsAt z y B E v L := by
  obtain ⟨p, cap, hv, hm, hq⟩ := h
  refine ⟨p, cap, hv, hm, hq.imp id ?_⟩
  rintro ⟨g, o, hp, hB, hg, hE, hf, hj⟩
  exact ⟨g, o, hp, hB, hg, by omega, fun hz k => (hc g k hB hg).2.trans (hf hz k), fun j h => ⟨(hc _ _ hB hg).1.trans (hj j h).c0, (hc _ _ hB hg).1.trans (hj j h).c1, (hc _ _ hB hg).1.trans (hj j h).c2⟩⟩
theorem SpsAt.later {z : Bool} {x y : World} {B E : Nat} {v : Value} {L : List Sp} (h : SpsAt z x B E v L) (hb : Below x.heap.size x y) : SpsAt z y B E v L := by
  obtain ⟨p, cap, hv, hm, hq⟩ := h
  refine ⟨p, cap, hv, hm, hq.imp id ?_⟩
  rintro ⟨g, o, hp, hB, hg, hE, hf, hj⟩
  exact ⟨g, o, hp, hB, hg, Nat.le_trans hE hb.size, fun hz k => (hb.frozen (p := ⟨g, k, none⟩) (by show g < _; omega)).trans (hf hz k), fun j h => (hj j h).later hb (by omega)⟩
theorem SpsAt.wide {z : Bool} {x : World} {B E C D : Nat} {v : Value} {L : List Sp} (h : SpsAt z x B E v L) (hc : C ≤ B) (hd : E ≤ D) (hx : D ≤ x.heap.size) : SpsAt z x C D v L := by
  obtain ⟨p, cap, hv, hm, hq⟩ := h
  refine ⟨p, cap, hv, hm, hq.imp id ?_⟩
  rintro ⟨g, o, hp, hB, hg, hE, hf, hj⟩
  exact ⟨g, o, hp, by omega, by omega, hx, hf, hj⟩
theorem SpsAt.weak {z : Bool} {x : World} {B E : Nat} {v : Value} {L : List Sp} (h : SpsAt z x B E v L) : SpsAt false x B E v L := by
  obtain ⟨p, cap, hv, hm, hq⟩ := h
  refine ⟨p, cap, hv, hm, hq.imp id ?_⟩
  rintro ⟨g, o, hp, hB, hg, hE, hf, hj⟩
  exact ⟨g, o, hp, hB, hg, hE, fun hz => (by cases hz), hj⟩
theorem SpsAt.off {z : Bool} {x : World} {B E : Nat} {v : Value} {L : List Sp} (h : SpsAt z x B E v L) {b o : Nat} {u : Value} (hb : b < B ∨ E ≤ b) : SpsAt z (x.setCell ⟨b, o, none⟩ u) B E v L :=
  h.stay (by simp) fun g k h1 h2 => ⟨sc_other (by intro e; injection e; omega), World.frozen?_setCell _ _ _ _⟩
theorem SpsAt.nil {z : Bool} {x : World} {B E : Nat} {p : Option Addr} {cap : Nat} : SpsAt z x B E (.slice p 0 cap) [] := ⟨p, cap, rfl, by unfold maxLen; simp, .inl rfl⟩

def set3 (x : World) (g o : Nat) (v0 v1 v2 : Value) : World := ((x.setCell ⟨g, o, none⟩ v0).setCell ⟨g, o + 1, none⟩ v1).setCell ⟨g, o + 2, none⟩ v2
theorem set3_miss (x : World) (g o : Nat) (v0 v1 v2 : Value) (b p : Nat) (h : b ≠ g ∨ p < o ∨ o + 3 ≤ p) : (set3 x g o v0 v1 v2).cell? ⟨b, p, none⟩ = x.cell? ⟨b, p, none⟩ := by
  unfold set3
  rw [sc_other (by intro e; injection e; omega), sc_other (by intro e; injection e; omega), sc_other (by intro e; injection e; omega)]
theorem set3_some (x : World) (g o : Nat) (v0 v1 v2 : Value) (a : Addr) (h : ∃ v, x.cell? a = some v) : ∃ v, (set3 x g o v0 v1 v2).cell? a = some v := by
  obtain ⟨v, h⟩ := h
  obtain ⟨v, h⟩ := cell?_setCell_some (p := ⟨g, o, none⟩) (x := v0) h
  obtain ⟨v, h⟩ := cell?_setCell_some (p := ⟨g, o + 1, none⟩) (x := v1) h
  exact cell?_setCell_some (p := ⟨g, o + 2, none⟩) (x := v2) h
theorem set3_hit (x : World) (g o : Nat) (s : Sp) (h0 : ∃ v, x.cell? ⟨g, o, none⟩ = some v) (h1 : ∃ v, x.cell? ⟨g, o + 1, none⟩ = some v) (h2 : ∃ v, x.cell? ⟨g, o + 2, none⟩ = some v) :
    Spn (set3 x g o (.bool s.1) (.int .i64 s.2.1) (.int .i64 s.2.2)) g o s := by
  obtain ⟨u0, h0⟩ := h0
  obtain ⟨u1, h1⟩ := h1
  obtain ⟨u2, h2⟩ := h2
  unfold set3
  refine ⟨?_, ?_, ?_⟩
  · rw [sc_other (by intro e; injection e; omega), sc_other (by intro e; injection e; omega), sc_same h0]
  · rw [sc_other (by intro e; injection e; omega), sc_same ((sc_other (by intro e; injection e; omega)).trans h1)]
  · rw [sc_same ((sc_other (by intro e; injection e; omega)).trans ((sc_other (by intro e; injection e; omega)).trans h2))]
theorem set3_frozen (x : World) (g o : Nat) (v0 v1 v2 : Value) (a : Addr) : (set3 x g o v0 v1 v2).frozen? a = x.frozen? a := by unfold set3; simp
theorem set3_below {B : Nat} {w x : World} {g o : Nat} {v0 v1 v2 : Value} (h : Below B w x) (hg : B ≤ g) : Below B w (set3 x g o v0 v1 v2) :=
  ((h.setCell (p := ⟨g, o, none⟩) hg _).setCell (p := ⟨g, o + 1, none⟩) hg _).setCell (p := ⟨g, o + 2, none⟩) hg _
theorem set3_size (x : World) (g o : Nat) (v0 v1 v2 : Value) : (set3 x g o v0 v1 v2).heap.size = x.heap.size := by unfold set3; simp

/-- a box of five cells, that may be stored into -/
structure Bx5 (x : World) (m : Nat) (v0 v1 v2 v3 v4 : Value) : Prop where
  lt : m < x.heap.size
  c0 : x.cell? ⟨m, 0, none⟩ = some v0
  c1 : x.cell? ⟨m, 1, none⟩ = some v1
  c2 : x.cell? ⟨m, 2, none⟩ = some v2
  c3 : x.cell? ⟨m, 3, none⟩ = some v3
  c4 : x.cell? ⟨m, 4, none⟩ = some v4
  fz : ∀ k, x.frozen? ⟨m, k, none⟩ = false
theorem Bx5.new (x : World) (v0 v1 v2 v3 v4 : Value) (t : TypeId) : Bx5 (x.alloc (.cells #[v0, v1, v2, v3, v4] t)) x.heap.size v0 v1 v2 v3 v4 :=
  ⟨by simp, by simp [go_sem], by simp [go_sem], by simp [go_sem], by simp [go_sem], by simp [go_sem], fun k => by simp [go_sem]⟩
theorem Bx5.later {x y : World} {m : Nat} {v0 v1 v2 v3 v4 : Value} (h : Bx5 x m v0 v1 v2 v3 v4) (hb : Below x.heap.size x y) : Bx5 y m v0 v1 v2 v3 v4 :=
  ⟨Nat.lt_of_lt_of_le h.lt hb.size, (hb.cell (p := ⟨m, 0, none⟩) h.lt).trans h.c0, (hb.cell (p := ⟨m, 1, none⟩) h.lt).trans h.c1, (hb.cell (p := ⟨m, 2, none⟩) h.lt).trans h.c2, (hb.cell (p := ⟨m, 3, none⟩) h.lt).trans h.c3, (hb.cell (p := ⟨m, 4, none⟩) h.lt).trans h.c4, fun k => (hb.frozen (p := ⟨m, k, none⟩) h.lt).trans (h.fz k)⟩
theorem Bx5.alloc {x : World} {m : Nat} {v0 v1 v2 v3 v4 : Value} (h : Bx5 x m v0 v1 v2 v3 v4) (o : Obj) : Bx5 (x.alloc o) m v0 v1 v2 v3 v4 := h.later ((Below.refl _ _).alloc (Nat.le_refl _) _)
theorem Bx5.off {x : World} {m : Nat} {v0 v1 v2 v3 v4 : Value} (h : Bx5 x m v0 v1 v2 v3 v4) {b o : Nat} {u : Value} (hb : b ≠ m) : Bx5 (x.setCell ⟨b, o, none⟩ u) m v0 v1 v2 v3 v4 := by
  have far : ∀ k, (x.setCell ⟨b, o, none⟩ u).cell? ⟨m, k, none⟩ = x.cell? ⟨m, k, none⟩ := fun k => sc_other (by intro e; injection e; omega)
  exact ⟨by simpa using h.lt, (far _).trans h.c0, (far _).trans h.c1, (far _).trans h.c2, (far _).trans h.c3, (far _).trans h.c4, fun k => (World.frozen?_setCell _ _ _ _).trans (h.fz k)⟩
theorem Bx5.set1 {x : World} {m : Nat} {v0 v1 v2 v3 v4 u : Value} (h : Bx5 x m v0 v1 v2 v3 v4) : Bx5 (x.setCell ⟨m, 1, none⟩ u) m v0 u v2 v3 v4 := by
  have far : ∀ k, k ≠ 1 → (x.setCell ⟨m, 1, none⟩ u).cell? ⟨m, k, none⟩ = x.cell? ⟨m, k, none⟩ := fun k hk => sc_other (by intro e; injection e; omega)
  exact ⟨by simpa using h.lt, (far _ (by omega)).trans h.c0, sc_same h.c1, (far _ (by omega)).trans h.c2, (far _ (by omega)).trans h.c3, (far _ (by omega)).trans h.c4, fun k => (World.frozen?_setCell _ _ _ _).trans (h.fz k)⟩

/-- a state: whether one comes there, the registers' spans, the cells' span -/
abbrev St := Bool × List Sp × Sp
def noSt : St := (false, [], noSp)

theorem szSpanS_any (p : Option Addr) (n cap : Nat) (left : Int) (w : World) (h0 : 0 ≤ left) (h1 : left ≤ 1048576) (hn : n ≤ maxLen) :
    Calls Try.prog 30 #[.slice p n cap, .int .i64 left] w fun e w' => e = .returned (.int .i64 (if left - n < 0 then -1 else left - n)) ∧ w' = w := by
  unfold maxLen at hn
  have hn' : (n : Int) ≤ 9223372036854775807 := by omega
  by_cases hlt : left - (n : Int) < 0
  · go_enter Try.func30, Try.ntmps30
    go_wp2
    go_ret
    exact ⟨retInt (by first | rfl | omega), rfl⟩
  · go_enter Try.func30, Try.ntmps30
    go_wp2
    go_ret
    exact ⟨retInt (by first | rfl | omega), rfl⟩

set_option maxHeartbeats 400000 in
theorem szState_any (a : Bool) (p : Option Addr) (n cap : Nat) (c : Bool) (l u : Int) (left : Int) (w : World) (h0 : 0 ≤ left) (h1 : left ≤ 1048576) (hn : n ≤ maxLen) :
    Calls Try.prog 10 #[.agg #[.bool a, .slice p n cap, .bool c, .int .i64 l, .int .i64 u], .int .i64 left] w fun e w' => e = .returned (.int .i64 (if left - n < 0 then -1 else left - n)) ∧ Below w.heap.size w w' := by
  by_cases hlt : left - (n : Int) < 0
  · rw [if_pos hlt]
    go_enter Try.func10, Try.ntmps10
    go_wp2_with (go_at_call 30; refine (szSpanS_any _ _ _ _ _ h0 h1 hn).mono ?_; rintro e w' ⟨rfl, rfl⟩; rw [if_pos hlt])
    go_ret
    exact ⟨rfl, by go_grown⟩
  · rw [if_neg hlt]
    have hl' : ¬ left - (n : Int) < 0 := hlt
    go_enter Try.func10, Try.ntmps10
    go_wp2_with (go_at_call 30; refine (szSpanS_any _ _ _ _ _ h0 h1 hn).mono ?_; rintro e w' ⟨rfl, rfl⟩; rw [if_neg hlt])
    go_ret
    exact ⟨rfl, by go_grown⟩

theorem toSpanA (s : Sp) (w : World) : Calls Try.prog 33 #[aggS s] w fun e w' => e = .returned (aggS s) ∧ Below w.heap.size w w' := toSpan_any s.1 s.2.1 s.2.2 w

theorem infoSpan : (Try.prog.info? 29).map (fun i => (i.zero, i.size, i.bytes)) = some (some (aggS noSp), 3, 24) := by kernel_rfl
set_option maxHeartbeats 1000000 in
theorem toSpanS_any (x : World) (z : Bool) (B E : Nat) (v : Value) (c : List Sp) (h : SpsAt z x B E v c) (hn : c.length ≤ 1048576) :
    Calls Try.prog 32 #[v] x fun e y => ∃ u, e = .returned u ∧ SpsAt true y x.heap.size y.heap.size u c ∧ Below x.heap.size x y := by
  obtain ⟨i, hi, hz0, hz1, hz2⟩ : ∃ i, Try.prog.info? 29 = some i ∧ i.zero = some (aggS noSp) ∧ i.size = 3 ∧ i.bytes = 24 := info_parts infoSpan
  have HI : Hid (Try.prog.info? 29 = some i ∧ i.zero = some (aggS noSp) ∧ i.size = 3 ∧ i.bytes = 24) := ⟨hi, hz0, hz1, hz2⟩
  clear hi hz0 hz1 hz2
  obtain ⟨p, cap, rfl, hm, hc⟩ := h
  generalize hL : c.length = n at *
  have HL : Hid (c.length = n) := hL
  have HN : Hid (n ≤ 1048576) := hn
  have hni : (n : Int) ≤ 1048576 := by omega
  have HM : Hid (n ≤ maxLen) := hm
  clear hL hn hm
  go_enter Try.func32, Try.ntmps32
  go_wp2_with (refine wpList_make_full _ rfl _ _ 28 rfl x.heap.size 29 i (aggS noSp) 3 Try.underlying28 HI.out.1 HI.out.2.1 HI.out.2.2.1 .i64 .i64 n n n rfl rfl rfl rfl ?b2 HM.out (Nat.le_refl _) ?_)
  case b2 => rw [HI.out.2.2.2]; have := HN.out; omega
  intro w1 hown0 hgr
  obtain ⟨xs, hown⟩ : ∃ xs, w1.ownsRow x.heap.size 29 3 (.slice (some ⟨x.heap.size, 0, none⟩) n n) n xs := ⟨_, hown0⟩
  clear hown0
  have hg1 : x.heap.size < w1.heap.size := (World.ownsRow.lt hown x.heap.size rfl).2
  have hB1 : Below x.heap.size x w1 := (Below.refl _ _).grown hgr (Nat.le_refl _) (fun k hk => by simp at hk)
  have hcell : ∀ k, k < n * 3 → ∃ v, w1.cell? ⟨x.heap.size, k, none⟩ = some v := by
    intro k hk
    have hl : k < xs.length := by rw [hown.1]; exact hk
    have := World.ownsRow.cells hown rfl k _ (List.getElem?_eq_getElem hl)
    rw [Addr.add_mid, Nat.zero_add] at this
    exact ⟨_, this⟩
  have hfz : ∀ k, w1.frozen? ⟨x.heap.size, k, none⟩ = false := fun k => World.ownsRow.frozenAt hown k
  clear hown hgr
  go_wp2_with fail
  go_loopw [4] (fun t y => ∃ k : Nat, k ≤ n ∧ t = .int .i64 k ∧ Below x.heap.size x y ∧ x.heap.size < y.heap.size ∧ (∀ j, j < n * 3 → ∃ v, y.cell? ⟨x.heap.size, j, none⟩ = some v) ∧ (∀ j, y.frozen? ⟨x.heap.size, j, none⟩ = false) ∧ (∀ j, j < k → Spn y x.heap.size (j * 3) (c.getD j noSp))) (fun t _ => n - (intOf t).toNat)
  case atStart => exact ⟨0, by omega, rfl, hB1, hg1, hcell, hfz, fun j hj => by omega⟩
  case round =>
    clear hB1 hg1 hcell hfz
    obtain ⟨k, hk, rfl, hB, hg, hcell, hfz, hdone⟩ := hrel
    by_cases hlt : k < n
    · rcases hc with h0 | ⟨g, o, rfl, hBg, hgE, hEx, _, hins⟩
      · omega
      have hgx : g < x.heap.size := by omega
      have hki : (k : Int) < (n : Int) := by omega
      obtain ⟨q0, q1, q2⟩ := (hins k hlt)
      have d0 := (hB.cell (p := ⟨g, o + k * 3, none⟩) hgx).trans q0
      have d1 := (hB.cell (p := ⟨g, o + k * 3 + 1, none⟩) hgx).trans q1
      have d2 := (hB.cell (p := ⟨g, o + k * 3 + 2, none⟩) hgx).trans q2
      clear q0 q1 q2
      have HC : Hid (∀ j, j < n * 3 → ∃ v, wr.cell? ⟨x.heap.size, j, none⟩ = some v) := hcell
      have HF : Hid (∀ j, wr.frozen? ⟨x.heap.size, j, none⟩ = false) := hfz
      have HD : Hid (∀ j, j < k → Spn wr x.heap.size (j * 3) (c.getD j noSp)) := hdone
      clear hcell hdone hins hfz
      go_wp2_with fail
      generalize hI : c[k]?.getD noSp = I
      have HII : Hid (c.getD k noSp = I) := by rw [List.getD]; exact hI
      clear hI
      refine (toSpanA I _).mono ?_
      rintro e w2 ⟨rfl, hb2⟩
      unfold aggS
      obtain ⟨u0, e0⟩ := HC.out (k * 3) (by omega)
      obtain ⟨u1, e1⟩ := HC.out (k * 3 + 1) (by omega)
      obtain ⟨u2, e2⟩ := HC.out (k * 3 + 2) (by omega)
      replace e0 := (hb2.cell (p := ⟨x.heap.size, k * 3, none⟩) hg).trans e0
      replace e1 := (hb2.cell (p := ⟨x.heap.size, k * 3 + 1, none⟩) hg).trans e1
      replace e2 := (hb2.cell (p := ⟨x.heap.size, k * 3 + 2, none⟩) hg).trans e2
      have f0 := (hb2.frozen (p := ⟨x.heap.size, k * 3, none⟩) hg).trans (HF.out _)
      have f1 := (hb2.frozen (p := ⟨x.heap.size, k * 3 + 1, none⟩) hg).trans (HF.out _)
      have f2 := (hb2.frozen (p := ⟨x.heap.size, k * 3 + 2, none⟩) hg).trans (HF.out _)
      clear d0 d1 d2
      go_wp2_with fail
      go_roundw
      case rel =>
        refine ⟨k + 1, by omega, by go_num, ?_⟩
        change Below x.heap.size x (set3 w2 x.heap.size (k * 3) _ _ _) ∧ x.heap.size < (set3 w2 x.heap.size (k * 3) _ _ _).heap.size ∧ (∀ j, j < n * 3 → ∃ v, (set3 w2 x.heap.size (k * 3) _ _ _).cell? ⟨x.heap.size, j, none⟩ = some v) ∧ (∀ j, (set3 w2 x.heap.size (k * 3) _ _ _).frozen? ⟨x.heap.size, j, none⟩ = false) ∧ (∀ j, j < k + 1 → Spn (set3 w2 x.heap.size (k * 3) _ _ _) x.heap.size (j * 3) (c.getD j noSp))
        refine ⟨set3_below (hB.trans (hb2.mono hB.size)) (Nat.le_refl _), by rw [set3_size]; exact Nat.lt_of_lt_of_le hg hb2.size, fun j hj => set3_some _ _ _ _ _ _ _ ?_, fun j => ?_, fun j hj => ?_⟩
        · obtain ⟨v, hv⟩ := HC.out j hj
          exact ⟨v, (hb2.cell (p := ⟨x.heap.size, j, none⟩) hg).trans hv⟩
        · rw [set3_frozen]; exact (hb2.frozen (p := ⟨x.heap.size, j, none⟩) hg).trans (HF.out j)
        · by_cases hjk : j = k
          · subst hjk
            rw [HII.out]
            exact set3_hit w2 x.heap.size (j * 3) I ⟨_, e0⟩ ⟨_, e1⟩ ⟨_, e2⟩
          · obtain ⟨r0, r1, r2⟩ := (HD.out j (by omega)).later hb2 hg
            exact ⟨(set3_miss _ _ _ _ _ _ _ _ (by omega)).trans r0, (set3_miss _ _ _ _ _ _ _ _ (by omega)).trans r1, (set3_miss _ _ _ _ _ _ _ _ (by omega)).trans r2⟩
      case measure => simp [intOf]; omega
    · obtain rfl : k = n := by omega
      have hki : ¬ (k : Int) < (k : Int) := by omega
      have HD : Hid (∀ j, j < k → Spn wr x.heap.size (j * 3) (c.getD j noSp)) := hdone
      have HF : Hid (∀ j, wr.frozen? ⟨x.heap.size, j, none⟩ = false) := hfz
      clear hcell hdone hc hfz
      go_wp2_with fail
      go_ret
      exact ⟨_, rfl, ⟨some ⟨x.heap.size, 0, none⟩, k, by rw [HL.out]; rfl, by rw [HL.out]; exact HM.out, .inr ⟨x.heap.size, 0, rfl, Nat.le_refl _, hg, Nat.le_refl _, fun _ => HF.out, fun j hj => by rw [Nat.zero_add]; rw [HL.out] at hj; exact HD.out j hj⟩⟩, hB⟩

end Go.Proofs.Ytdomalclpjijaaa

/-
  The contracts of the laws' own helpers on states: copied (toState), the same (eqSpanS, eqState).
-/
namespace Go.Proofs.Ytdomalclpjijaaa
open Go.RowKit
set_option linter.unusedVariables false
set_option linter.unusedSimpArgs false

theorem SpsAt.shape {z : Bool} {x : World} {B E : Nat} {v : Value} {L : List Sp} (h : SpsAt z x B E v L) : ∃ p cap, v = .slice p L.length cap := by
  obtain ⟨p, cap, hv, _⟩ := h
  exact ⟨p, cap, hv⟩

set_option maxHeartbeats 1000000 in
theorem toState_any (x : World) (z : Bool) (B E : Nat) (a : Bool) (v : Value) (L : List Sp) (c : Bool) (l u : Int) (h : SpsAt z x B E v L) (hn : L.length ≤ 1048576) :
    Calls Try.prog 12 #[.agg #[.bool a, v, .bool c, .int .i64 l, .int .i64 u]] x fun e y => ∃ v', e = .returned (.agg #[.bool a, v', .bool c, .int .i64 l, .int .i64 u]) ∧ SpsAt true y x.heap.size y.heap.size v' L ∧ Below x.heap.size x y := by
  obtain ⟨p, cap, rfl⟩ := h.shape
  have HN : Hid (L.length ≤ 1048576) := hn
  clear hn
  have H : Hid (SpsAt z x B E (.slice p L.length cap) L) := h
  clear h
  generalize hL : L.length = n at H HN
  have HL : Hid (L.length = n) := hL
  clear hL
  go_enter Try.func12, Try.ntmps12
  go_wp2_with fail
  have hbW : Below x.heap.size x (((x.alloc (.cells #[.bool a, .slice p n cap, .bool c, .int .i64 l, .int .i64 u] 26)).alloc (.cells #[.bool false, .slice none 0 0, .bool false, .int .i64 0, .int .i64 0] 31)).alloc (.cells #[.bool a, .slice none 0 0, .bool false, .int .i64 0, .int .i64 0] 31)) := by go_grown
  refine (toSpanS_any _ z B E _ L (H.out.later hbW) (by rw [HL.out]; exact HN.out)).mono ?_
  rintro e y ⟨v1, rfl, hc, hb⟩
  obtain ⟨q, cp, rfl⟩ := hc.shape
  rw [HL.out] at hc
  rw [HL.out]
  have hB : Below x.heap.size x y := hbW.trans (hb.mono (by first | (simp; done) | (simp; omega)))
  have hz : x.heap.size + 3 ≤ y.heap.size := by have := hb.size; simp at this; omega
  have hc3 : Hid (SpsAt true y (x.heap.size + 3) y.heap.size (.slice q n cp) L) := hc.wide (by simp) (Nat.le_refl _) (Nat.le_refl _)
  have k0 := ((((Bx5.new x (.bool a) (.slice p n cap) (.bool c) (.int .i64 l) (.int .i64 u) 26).alloc _).alloc _).later hb)
  have k1 := (((Bx5.new (x.alloc _) (.bool false) (.slice none 0 0) (.bool false) (.int .i64 0) (.int .i64 0) 31).alloc _).later hb)
  have k2 := ((Bx5.new ((x.alloc _).alloc _) (.bool a) (.slice none 0 0) (.bool false) (.int .i64 0) (.int .i64 0) 31).later hb)
  simp at k1 k2
  have K0 : Hid _ := k0
  have K1 : Hid _ := k1
  have K2 : Hid _ := k2
  obtain ⟨_, a0, a1, a2, a3, a4, _⟩ := k0
  obtain ⟨_, d0, d1, d2, d3, d4, df⟩ := k2
  clear k1 hbW hb hc
  go_wp2_with fail
  refine (toSpan_any _ _ _ _).mono ?_
  rintro e w2 ⟨rfl, hb2⟩
  clear a0 a1 a2 a3 a4 d0 d1 d2 d3 d4 df
  have e1 := (K1.out.off (b := x.heap.size + 1 + 1) (o := 1) (u := .slice q n cp) (by omega)).later hb2
  have e2 := (K2.out.set1 (u := .slice q n cp)).later hb2
  have hc4 : Hid (SpsAt true w2 (x.heap.size + 3) y.heap.size (.slice q n cp) L) := (hc3.out.off (by omega)).later hb2
  have hB2 : Below x.heap.size x w2 := (hB.setCell (p := ⟨x.heap.size + 1 + 1, 1, none⟩) (by simp; omega) _).trans (hb2.mono (by simp; omega))
  have hz2 : y.heap.size ≤ w2.heap.size := by have := hb2.size; simpa using this
  clear hb2 hB hc3 K0 K1 K2
  obtain ⟨el, d0, d1, d2, d3, d4, df⟩ := e1
  obtain ⟨fl, f0, f1, f2, f3, f4, ff⟩ := e2
  go_wp2_with fail
  refine bodyPost_ret (v := .agg #[.bool a, .slice q n cp, .bool c, .int .i64 l, .int .i64 u]) (by simp [results, Try.results12, go_sem, el, fl, f0, f1, f2, f3, f4, d0, d1, d2, d3, d4, ff, df]) rfl ⟨_, rfl, ?_, ?_⟩
  · refine SpsAt.wide (B := x.heap.size + 3) (E := y.heap.size) ?_ (by omega) (by simp; omega) (by simp)
    repeat (refine SpsAt.off ?_ (by omega))
    exact hc4.out
  · repeat (refine Below.setCell ?_ (by simp <;> omega) _)
    exact hB2

theorem keep6 {w y : World} {g o g' o' k : Nat} {i0 : Bool} {i1 i2 : Int} (h : (fun z => z.cell? ⟨g, o + k * 3, none⟩ = some (.bool i0) ∧ z.cell? ⟨g, o + k * 3 + 1, none⟩ = some (.int .i64 i1) ∧ z.cell? ⟨g, o + k * 3 + 2, none⟩ = some (.int .i64 i2) ∧ z.cell? ⟨g', o' + k * 3, none⟩ = some (.bool i0) ∧ z.cell? ⟨g', o' + k * 3 + 1, none⟩ = some (.int .i64 i1) ∧ z.cell? ⟨g', o' + k * 3 + 2, none⟩ = some (.int .i64 i2)) w) (hb : Below w.heap.size w y) (hg : g < w.heap.size) (hg' : g' < w.heap.size) : (fun z => z.cell? ⟨g, o + k * 3, none⟩ = some (.bool i0) ∧ z.cell? ⟨g, o + k * 3 + 1, none⟩ = some (.int .i64 i1) ∧ z.cell? ⟨g, o + k * 3 + 2, none⟩ = some (.int .i64 i2) ∧ z.cell? ⟨g', o' + k * 3, none⟩ = some (.bool i0) ∧ z.cell? ⟨g', o' + k * 3 + 1, none⟩ = some (.int .i64 i1) ∧ z.cell? ⟨g', o' + k * 3 + 2, none⟩ = some (.int .i64 i2)) y := by
  obtain ⟨d0, d1, d2, e0, e1, e2⟩ := h
  exact ⟨(hb.cell (p := ⟨g, _, none⟩) hg).trans d0, (hb.cell (p := ⟨g, _, none⟩) hg).trans d1, (hb.cell (p := ⟨g, _, none⟩) hg).trans d2, (hb.cell (p := ⟨g', _, none⟩) hg').trans e0, (hb.cell (p := ⟨g', _, none⟩) hg').trans e1, (hb.cell (p := ⟨g', _, none⟩) hg').trans e2⟩
set_option maxHeartbeats 1000000 in
theorem eqSpanS_same (x : World) (z z' : Bool) (B E C D : Nat) (v u : Value) (c : List Sp) (h : SpsAt z x B E v c) (h' : SpsAt z' x C D u c) :
    Calls Try.prog 36 #[v, u] x fun e y => e = .returned (.bool true) ∧ Below x.heap.size x y := by
  obtain ⟨p, cap, rfl, hm, hc⟩ := h
  obtain ⟨p', cap', rfl, _, hc'⟩ := h'
  generalize hL : c.length = n at *
  unfold maxLen at hm
  have hni : (n : Int) ≤ 9223372036854775807 := by omega
  clear hL hm
  go_enter Try.func36, Try.ntmps36
  go_wp2_with fail
  go_loopw [5] (fun t y => ∃ k : Nat, k ≤ n ∧ t = .int .i64 k ∧ Below x.heap.size x y) (fun t _ => n - (intOf t).toNat)
  case atStart => exact ⟨0, by omega, rfl, Below.refl _ _⟩
  case round =>
    obtain ⟨k, hk, rfl, hB⟩ := hrel
    by_cases hlt : k < n
    · rcases hc with h0 | ⟨g, o, rfl, hBg, hgE, hEx, _, hins⟩
      · omega
      rcases hc' with h0 | ⟨g', o', rfl, hBg', hgE', hEx', _, hins'⟩
      · omega
      have hgx : g < x.heap.size := by omega
      have hgx' : g' < x.heap.size := by omega
      have hki : (k : Int) < (n : Int) := by omega
      obtain ⟨d0, d1, d2⟩ := (hins k hlt).later hB hgx
      obtain ⟨e0, e1, e2⟩ := (hins' k hlt).later hB hgx'
      clear hins hins'
      generalize c.getD k noSp = I at *
      obtain ⟨i0, i1, i2⟩ := I
      simp only at d0 d1 d2 e0 e1 e2
      have hgw : g < wr.heap.size := Nat.lt_of_lt_of_le hgx hB.size
      have hgw' : g' < wr.heap.size := Nat.lt_of_lt_of_le hgx' hB.size
      go_wp2_with fail
      go_region_held3 (fun z => z.cell? ⟨g, o + k * 3, none⟩ = some (.bool i0) ∧ z.cell? ⟨g, o + k * 3 + 1, none⟩ = some (.int .i64 i1) ∧ z.cell? ⟨g, o + k * 3 + 2, none⟩ = some (.int .i64 i2) ∧ z.cell? ⟨g', o' + k * 3, none⟩ = some (.bool i0) ∧ z.cell? ⟨g', o' + k * 3 + 1, none⟩ = some (.int .i64 i1) ∧ z.cell? ⟨g', o' + k * 3 + 2, none⟩ = some (.int .i64 i2)) (first | (with_reducible assumption) | exact ⟨d0, d1, d2, e0, e1, e2⟩ | fail) ((go_at_call 37; refine (eqSpan_same i0 i1 i2 _).mono ?_; rintro e w2 ⟨rfl, hb2⟩; have hS2 := keep6 (w := wr.drew) (o := o) (o' := o') (k := k) (i0 := i0) (i1 := i1) (i2 := i2) ⟨d0, d1, d2, e0, e1, e2⟩ hb2 hgw hgw'))
      have hB2 : Below x.heap.size x w2 := hB.trans ((Below.drew (Below.refl _ _)).trans (hb2.mono (by simp)) |>.mono hB.size)
      go_wp2_with fail
      go_roundw
      case rel => exact ⟨k + 1, by omega, by go_num, hB2⟩
      case measure => simp [intOf]; omega
    · obtain rfl : k = n := by omega
      have hki : ¬ (k : Int) < (k : Int) := by omega
      go_wp2_with fail
      go_ret
      exact ⟨rfl, hB⟩

set_option maxHeartbeats 1000000 in
theorem eqState_same (x : World) (z z' : Bool) (B E C D : Nat) (a : Bool) (v v' : Value) (L : List Sp) (c : Bool) (l u : Int) (h : SpsAt z x B E v L) (h' : SpsAt z' x C D v' L) :
    Calls Try.prog 14 #[.agg #[.bool a, v, .bool c, .int .i64 l, .int .i64 u], .agg #[.bool a, v', .bool c, .int .i64 l, .int .i64 u]] x fun e y => e = .returned (.bool true) ∧ Below x.heap.size x y := by
  obtain ⟨p, cap, rfl⟩ := h.shape
  obtain ⟨p', cap', rfl⟩ := h'.shape
  have H : Hid (SpsAt z x B E (.slice p L.length cap) L) := h
  have H' : Hid (SpsAt z' x C D (.slice p' L.length cap') L) := h'
  clear h h'
  generalize hL : L.length = n at H H'
  clear hL
  go_enter Try.func14, Try.ntmps14
  go_wp2_with fail
  have hbW : Below x.heap.size x ((x.alloc (.cells #[.bool a, .slice p n cap, .bool c, .int .i64 l, .int .i64 u] 31)).alloc (.cells #[.bool a, .slice p' n cap', .bool c, .int .i64 l, .int .i64 u] 31)) := by go_grown
  refine (eqSpanS_same _ z z' B E C D _ _ L (H.out.later hbW) (H'.out.later hbW)).mono ?_
  rintro e y ⟨rfl, hb⟩
  have k0 := ((Bx5.new x (.bool a) (.slice p n cap) (.bool c) (.int .i64 l) (.int .i64 u) 31).alloc (.cells #[.bool a, .slice p' n cap', .bool c, .int .i64 l, .int .i64 u] 31)).later hb
  have k1 := (Bx5.new (x.alloc _) (.bool a) (.slice p' n cap') (.bool c) (.int .i64 l) (.int .i64 u) 31).later hb
  simp at k1
  have hB : Below x.heap.size x y := hbW.trans (hb.mono (by simp; omega))
  obtain ⟨_, a0, a1, a2, a3, a4, _⟩ := k0
  obtain ⟨_, d0, d1, d2, d3, d4, _⟩ := k1
  clear hbW hb H H'
  go_wp2_with fail
  refine (eqSpan_same _ _ _ _).mono ?_
  rintro e w2 ⟨rfl, hb2⟩
  go_wp2_with fail
  go_ret
  exact ⟨rfl, hB.trans (hb2.mono hB.size)⟩
end Go.Proofs.Ytdomalclpjijaaa
