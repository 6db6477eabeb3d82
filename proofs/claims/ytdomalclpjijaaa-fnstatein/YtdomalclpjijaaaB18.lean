import Derived.Test.YtdomalclpjijaaaB15
import Derived.Test.YtdomalclpjijaaaB17
import Derived.Test.YtdomalclpjijaaaB14
import Derived.Test.YtdomalclpjijaaaB3
import Derived.Deep.Slices
import Derived.Deep.Strs
import Derived.Lib.SmallJoins
import Derived.WideShapes
/-
  What the join of two states, and the hurried one, are: plain functions; the model's l11Span.
-/
namespace Go.Proofs.Ytdomalclpjijaaa
open Go.RowKit
set_option linter.unusedVariables false
set_option linter.unusedSimpArgs false

def wideS (s t : Sp) : Sp := wideF s.1 s.2.1 s.2.2 t.1 t.2.1 t.2.2
/-- a span of two, in a hurry, or not -/
def spF (wd : Bool) (s t : Sp) : Sp := if wd = true then wideS s t else joinS s t
def row3 (wd : Bool) (L M : List Sp) : List Sp := [spF wd (L.getD 0 noSp) (M.getD 0 noSp), spF wd (L.getD 1 noSp) (M.getD 1 noSp), spF wd (L.getD 2 noSp) (M.getD 2 noSp)]
/-- a state of two, in a hurry, or not -/
def stBoth (wd : Bool) (a : Bool) (L : List Sp) (c : Sp) (b : Bool) (M : List Sp) (d : Sp) : St :=
  if (stOk a L c && stOk b M d) = true then (if a = true then (if b = true then (true, row3 wd L M, spF wd c d) else (a, L, c)) else (b, M, d)) else noSt
/-- a state is handed back, in memory of its own -/
def StAt (r : St) (x : World) (e : Ending) (y : World) : Prop :=
  ∃ v, e = .returned (.agg #[.bool r.1, v, .bool r.2.2.1, .int .i64 r.2.2.2.1, .int .i64 r.2.2.2.2]) ∧ SpsAt true y x.heap.size y.heap.size v r.2.1 ∧ Below x.heap.size x y
theorem stOk_len0 {L : List Sp} {c : Sp} {a : Bool} (h : stOk a L c = true) : L.length = 0 ∨ L.length = 3 := by
  cases a
  · unfold stOk at h; simp at h; exact .inl (by simp [h.1])
  · exact .inr (stOk_len' h)
theorem stB_no {wd a : Bool} {L : List Sp} {c : Sp} {b : Bool} {M : List Sp} {d : Sp} (h : (stOk a L c && stOk b M d) = false) : stBoth wd a L c b M d = noSt := by unfold stBoth; rw [h]; rfl
theorem stB_fst {wd a : Bool} {L : List Sp} {c : Sp} {M : List Sp} {d : Sp} (h : stOk a L c = true) (k : stOk false M d = true) (ha : a = true) : stBoth wd a L c false M d = (a, L, c) := by unfold stBoth; rw [h, k, ha]; rfl
theorem stB_snd {wd : Bool} {L : List Sp} {c : Sp} {b : Bool} {M : List Sp} {d : Sp} (h : stOk false L c = true) (k : stOk b M d = true) : stBoth wd false L c b M d = (b, M, d) := by unfold stBoth; rw [h, k]; rfl
theorem stB_all {wd : Bool} {L : List Sp} {c : Sp} {M : List Sp} {d : Sp} (h : stOk true L c = true) (k : stOk true M d = true) : stBoth wd true L c true M d = (true, row3 wd L M, spF wd c d) := by unfold stBoth; rw [h, k]; rfl

theorem wideS_at {a b p : Bool} {al ah bl bh pl ph : Int} (h : wideS (a, al, ah) (b, bl, bh) = (p, pl, ph)) (w : World) : Calls Try.prog 67 #[.agg #[.bool a, .int .i64 al, .int .i64 ah], .agg #[.bool b, .int .i64 bl, .int .i64 bh]] w fun e w' => e = .returned (.agg #[.bool p, .int .i64 pl, .int .i64 ph]) ∧ Below w.heap.size w w' := wideT_at h w
set_option maxHeartbeats 1000000 in
theorem l11Span_at {wd a b p : Bool} {al ah bl bh pl ph : Int} (h : spF wd (a, al, ah) (b, bl, bh) = (p, pl, ph)) (w : World) : Calls Try.prog 55 #[.agg #[.bool a, .int .i64 al, .int .i64 ah], .agg #[.bool b, .int .i64 bl, .int .i64 bh], .bool wd] w fun e w' => e = .returned (.agg #[.bool p, .int .i64 pl, .int .i64 ph]) ∧ Below w.heap.size w w' := by
  have hbW : Below w.heap.size w (((w.alloc (.cells #[.bool a, .int .i64 al, .int .i64 ah] 29)).alloc (.cells #[.bool b, .int .i64 bl, .int .i64 bh] 29)).alloc (.cells #[.bool false, .int .i64 0, .int .i64 0] 29)) := by go_grown
  cases wd
  · have h2 : joinS (a, al, ah) (b, bl, bh) = (p, pl, ph) := h
    go_enter Try.func55, Try.ntmps55
    go_wp2_with fail
    refine (joinT_at h2 _).mono ?_
    rintro e w1 ⟨rfl, hb1⟩
    obtain ⟨p1, q1, r1, f1, g1, h1⟩ := cell3 hb1 (w.heap.size + 1 + 1) (by simp)
    simp [go_sem] at p1 q1 r1 f1 g1 h1
    go_wp2_with fail
    refine bodyPost_ret (v := .agg #[.bool p, .int .i64 pl, .int .i64 ph]) (by simp [results, Try.results55, go_sem, p1, q1, r1, f1, g1, h1]) rfl ⟨rfl, ?_⟩
    repeat (refine Below.setCell ?_ (by simp <;> omega) _)
    exact hbW.trans (hb1.mono hbW.size)
  · have h2 : wideS (a, al, ah) (b, bl, bh) = (p, pl, ph) := h
    go_enter Try.func55, Try.ntmps55
    go_wp2_with fail
    refine (wideS_at h2 _).mono ?_
    rintro e w1 ⟨rfl, hb1⟩
    obtain ⟨p1, q1, r1, f1, g1, h1⟩ := cell3 hb1 (w.heap.size + 1 + 1) (by simp)
    simp [go_sem] at p1 q1 r1 f1 g1 h1
    go_wp2_with fail
    refine bodyPost_ret (v := .agg #[.bool p, .int .i64 pl, .int .i64 ph]) (by simp [results, Try.results55, go_sem, p1, q1, r1, f1, g1, h1]) rfl ⟨rfl, ?_⟩
    repeat (refine Below.setCell ?_ (by simp <;> omega) _)
    exact hbW.trans (hb1.mono hbW.size)
end Go.Proofs.Ytdomalclpjijaaa

/-
  A state and a row of numbers that are handed in, opened: what they read as.
-/
namespace Go.Proofs.Ytdomalclpjijaaa
open Go.ChangeShapes Go.WideShapes Go.ChangeAt Go.RowKit Go.Joins Go.Deep
set_option linter.unusedVariables false
set_option linter.unusedSimpArgs false

theorem cell_lt {w : World} {a : Addr} {v : Value} (h : w.cell? a = some v) : a.block < w.heap.size := by
  rcases Nat.lt_or_ge a.block w.heap.size with hl | hl
  · exact hl
  · exfalso
    have hn : w.heap[a.block]? = none := by simp; omega
    obtain ⟨b, o, s⟩ := a
    simp only at hn
    simp [World.cell?, hn] at h

section
variable {H : Type} {enc : TypeId × Value → H} {W : World} {spare : Nat → Bool} {held : Bool}

set_option maxRecDepth 100000 in
theorem open_span_cells {fuel : Nat} {cs : List Value} {x : DataW H × List MemPlace} (h : DataW.trod enc Try.prog W 0 spare held fuel 24 cs = some x) :
    ∃ (a : Bool) (l u : Int), cs = [.bool a, .int .i64 l, .int .i64 u] := by
  obtain ⟨y0, y1, y2, n, _, hl, h0, h1, h2⟩ := trod_struct3 Try.underlying24 h
  have hc : Try.prog.cellsOf 24 = 3 := by kernel_rfl
  have hb : Try.prog.cellsOf 4 = 1 := by kernel_rfl
  have hi : Try.prog.cellsOf 3 = 1 := by kernel_rfl
  rw [hc] at hl
  match cs, hl with
  | [c0, c1, c2], _ =>
    simp only [hb, hi, List.drop_zero, List.drop_succ_cons, List.take_succ_cons, List.take_zero] at h0 h1 h2
    obtain ⟨b, e0, _⟩ := DataW.trod_bool Try.underlying4 h0
    obtain ⟨l, e1, _⟩ := DataW.trod_int Try.underlying3 h1
    obtain ⟨u, e2, _⟩ := DataW.trod_int Try.underlying3 h2
    simp at e0 e1 e2
    subst e0 e1 e2
    exact ⟨b, l, u, rfl⟩

theorem list_of {n : Nat} (q : Nat → Sp) : ∃ L : List Sp, L.length = n ∧ ∀ j, j < n → L.getD j noSp = q j :=
  ⟨(List.range n).map q, by simp, fun j hj => by simp [List.getD, hj]⟩

set_option maxRecDepth 100000 in
theorem open_spans {fuel : Nat} {v : Value} {x : DataW H × List MemPlace} (h : DataW.trod enc Try.prog W 0 spare held fuel 22 [v] = some x) :
    ∃ L, SpsAt false W 0 W.heap.size v L := by
  have hc : Try.prog.cellsOf 24 = 3 := by kernel_rfl
  rcases open_slice Try.underlying22 h with ⟨hcs, _⟩ | ⟨a, len, cap, m, n, D, Pl, hcs, _, hl, hm, hmm, _, hx⟩
  · simp at hcs
    subst hcs
    exact ⟨[], SpsAt.nil⟩
  · simp at hcs
    subst hcs
    have hlm : len ≤ m := by rw [hmm]; split <;> omega
    have each : ∀ i, i < len → ∃ q : Sp, W.cell? (a.add (i * 3)) = some (.bool q.1) ∧ W.cell? (a.add (i * 3 + 1)) = some (.int .i64 q.2.1) ∧ W.cell? (a.add (i * 3 + 2)) = some (.int .i64 q.2.2) := by
      intro i hi
      obtain ⟨cs', h1, h2⟩ := hx i (by omega)
      rw [hc] at h1
      obtain ⟨_, hlen, hcell⟩ := World.cells?_some h1
      obtain ⟨b, l, u, rfl⟩ := open_span_cells h2
      have e0 := hcell 0 (by omega)
      have e1 := hcell 1 (by omega)
      have e2 := hcell 2 (by omega)
      rw [add_add] at e0 e1 e2
      exact ⟨(b, l, u), by simpa using e0, by simpa using e1, by simpa using e2⟩
    obtain ⟨q, hq⟩ := choose_lt each
    obtain ⟨L, hL, hget⟩ := list_of (n := len) q
    refine ⟨L, some a, cap, by rw [hL], by rw [hL]; omega, ?_⟩
    rw [hL]
    by_cases h0 : len = 0
    · exact .inl h0
    · right
      obtain ⟨b, off, spot⟩ := a
      have hspot : spot = none := by simpa [Addr.add] using World.cell?_spot (hq 0 (by omega)).1
      subst hspot
      have hlt : b < W.heap.size := by
        have := cell_lt (hq 0 (by omega)).1
        simpa [Addr.add] using this
      refine ⟨b, off, rfl, Nat.zero_le _, hlt, Nat.le_refl _, fun hz => (by cases hz), fun j hj => ?_⟩
      obtain ⟨g0, g1, g2⟩ := hq j hj
      rw [add_plain] at g0 g1 g2
      rw [hget j hj]
      exact ⟨g0, g1, g2⟩

theorem array5 {α : Type} {cs : Array α} (h : cs.size = 5) : ∃ c0 c1 c2 c3 c4, cs = #[c0, c1, c2, c3, c4] := by
  obtain ⟨l⟩ := cs
  match l, h with
  | [c0, c1, c2, c3, c4], _ => exact ⟨c0, c1, c2, c3, c4, rfl⟩

set_option maxRecDepth 100000 in
theorem open_state {r : Reach} {b0 : Nat} {v : Value} {d : DataW H} {p : List MemPlace} (hv : Value.okWide Try.prog W r b0 26 v) (h : DataW.Trod enc Try.prog W 0 spare held 26 v d p) :
    ∃ (a : Bool) (s : Value) (L : List Sp) (c : Bool) (l u : Int), v = .agg #[.bool a, s, .bool c, .int .i64 l, .int .i64 u] ∧ SpsAt false W 0 W.heap.size s L := by
  obtain ⟨cs, rfl, hsz⟩ := okWide_struct Try.underlying26 hv
  have hC : Try.prog.cellsOf 26 = 5 := by kernel_rfl
  have hb : Try.prog.cellsOf 4 = 1 := by kernel_rfl
  have hs : Try.prog.cellsOf 22 = 1 := by kernel_rfl
  have hc : Try.prog.cellsOf 24 = 3 := by kernel_rfl
  obtain ⟨c0, c1, c2, c3, c4, rfl⟩ := array5 (hsz.trans hC)
  obtain ⟨fuel, hf⟩ := h
  obtain ⟨y0, y1, y2, n, _, _, h0, h1, h2⟩ := trod_struct3 Try.underlying26 hf
  simp only [Value.cells, hb, hs, hc, List.drop_zero, List.drop_succ_cons, List.take_succ_cons, List.take_zero] at h0 h1 h2
  obtain ⟨b, e0, _⟩ := DataW.trod_bool Try.underlying4 h0
  obtain ⟨c, l, u, e2⟩ := open_span_cells h2
  obtain ⟨L, hL⟩ := open_spans h1
  simp at e0 e2
  obtain ⟨rfl, rfl, rfl⟩ := e2
  subst e0
  exact ⟨b, c1, L, c, l, u, rfl, hL⟩
end
end Go.Proofs.Ytdomalclpjijaaa

/-
  Rows of numbers: what a slice of them reads as; copied (toIntS), the same (eqIntS); one that is handed in, opened.
-/
namespace Go.Proofs.Ytdomalclpjijaaa
open Go.ChangeShapes Go.WideShapes Go.ChangeAt Go.RowKit Go.Joins Go.Deep
set_option linter.unusedVariables false
set_option linter.unusedSimpArgs false

/-- the slice value v reads as the numbers L, in a block from B on and ahead of E; nothing of it is frozen, if z -/
def IntsAt (z : Bool) (x : World) (B E : Nat) (v : Value) (L : List Int) : Prop :=
  ∃ p cap, v = .slice p L.length cap ∧ L.length ≤ maxLen ∧ (L.length = 0 ∨ ∃ g o, p = some ⟨g, o, none⟩ ∧ B ≤ g ∧ g < E ∧ E ≤ x.heap.size ∧ (z = true → ∀ k, x.frozen? ⟨g, k, none⟩ = false) ∧ ∀ j, j < L.length → x.cell? ⟨g, o + j, none⟩ = some (.int .i64 (L.getD j 0)))
theorem IntsAt.stay {z : Bool} {x y : World} {B E : Nat} {v : Value} {L : List Int} (h : IntsAt z x B E v L) (hs : x.heap.size ≤ y.heap.size) (hc : ∀ g o, B ≤ g → g < E → y.cell? ⟨g, o, none⟩ = x.cell? ⟨g, o, none⟩ ∧ y.frozen? ⟨g, o, none⟩ = x.frozen? ⟨g, o, none⟩) : IntsAt z y B E v L := by
  obtain ⟨p, cap, hv, hm, hq⟩ := h
  refine ⟨p, cap, hv, hm, hq.imp id ?_⟩
  rintro ⟨g, o, hp, hB, hg, hE, hf, hj⟩
  exact ⟨g, o, hp, hB, hg, by omega, fun hz k => (hc g k hB hg).2.trans (hf hz k), fun j h => (hc _ _ hB hg).1.trans (hj j h)⟩
theorem IntsAt.later {z : Bool} {x y : World} {B E : Nat} {v : Value} {L : List Int} (h : IntsAt z x B E v L) (hb : Below x.heap.size x y) : IntsAt z y B E v L := by
  obtain ⟨p, cap, hv, hm, hq⟩ := h
  refine ⟨p, cap, hv, hm, hq.imp id ?_⟩
  rintro ⟨g, o, hp, hB, hg, hE, hf, hj⟩
  exact ⟨g, o, hp, hB, hg, Nat.le_trans hE hb.size, fun hz k => (hb.frozen (p := ⟨g, k, none⟩) (by show g < _; omega)).trans (hf hz k), fun j h => (hb.cell (p := ⟨g, o + j, none⟩) (by show g < _; omega)).trans (hj j h)⟩
theorem IntsAt.wide {z : Bool} {x : World} {B E C D : Nat} {v : Value} {L : List Int} (h : IntsAt z x B E v L) (hc : C ≤ B) (hd : E ≤ D) (hx : D ≤ x.heap.size) : IntsAt z x C D v L := by
  obtain ⟨p, cap, hv, hm, hq⟩ := h
  refine ⟨p, cap, hv, hm, hq.imp id ?_⟩
  rintro ⟨g, o, hp, hB, hg, hE, hf, hj⟩
  exact ⟨g, o, hp, by omega, by omega, hx, hf, hj⟩
theorem IntsAt.off {z : Bool} {x : World} {B E : Nat} {v : Value} {L : List Int} (h : IntsAt z x B E v L) {b o : Nat} {u : Value} (hb : b < B ∨ E ≤ b) : IntsAt z (x.setCell ⟨b, o, none⟩ u) B E v L :=
  h.stay (by simp) fun g k h1 h2 => ⟨sc_other (by intro e; injection e; omega), World.frozen?_setCell _ _ _ _⟩
theorem IntsAt.nil {z : Bool} {x : World} {B E : Nat} {p : Option Addr} {cap : Nat} : IntsAt z x B E (.slice p 0 cap) [] := ⟨p, cap, rfl, by unfold maxLen; simp, .inl rfl⟩
theorem IntsAt.shape {z : Bool} {x : World} {B E : Nat} {v : Value} {L : List Int} (h : IntsAt z x B E v L) : ∃ p cap, v = .slice p L.length cap := by
  obtain ⟨p, cap, hv, _⟩ := h
  exact ⟨p, cap, hv⟩

theorem infoInt : (Try.prog.info? 3).map (fun i => (i.zero, i.size, i.bytes)) = some (some (.int .i64 0), 1, 8) := by kernel_rfl
theorem belowN (x : World) (n : Nat) : Below x.heap.size x (x.drewN n) := by
  induction n with
  | zero => exact Below.refl _ _
  | succ n ih => exact ih.drew
section
variable {H : Type} {enc : TypeId × Value → H} {W : World} {spare : Nat → Bool} {held : Bool}
theorem open_ints_at {v : Value} {d : DataW H} {p : List MemPlace} {s : Option Addr} {n cap : Nat} (hv : v = .slice s n cap) (h : DataW.Trod enc Try.prog W 0 spare held 38 v d p) :
    ∃ L, IntsAt false W 0 W.heap.size v L := by
  subst hv
  obtain ⟨fuel, hf⟩ := h
  rcases open_ints Try.underlying38 Try.underlying3 (by kernel_rfl) hf with ⟨hcs, _⟩ | ⟨x, l, c, zs, hcs, _, hl, hm, hz, _, hcell, hwz⟩
  · simp [Value.cells] at hcs
    obtain ⟨rfl, rfl, rfl⟩ := hcs
    exact ⟨[], IntsAt.nil⟩
  · simp [Value.cells] at hcs
    obtain ⟨rfl, rfl, rfl⟩ := hcs
    have hlz : n ≤ zs.length := by rw [hz]; split <;> omega
    have hlen : (zs.take n).length = n := by rw [List.length_take]; omega
    refine ⟨zs.take n, some x, cap, by rw [hlen], by rw [hlen]; omega, ?_⟩
    rw [hlen]
    by_cases h0 : n = 0
    · exact .inl h0
    · right
      obtain ⟨b, off, rfl, hc⟩ := ints_at hcell (by omega)
      have hlt : b < W.heap.size := cell_lt (hc 0 (by omega))
      refine ⟨b, off, rfl, Nat.zero_le _, hlt, Nat.le_refl _, fun hz => (by cases hz), fun j hj => ?_⟩
      rw [hc j (by omega)]
      simp [List.getD, List.getElem?_take, hj]
end
end Go.Proofs.Ytdomalclpjijaaa
