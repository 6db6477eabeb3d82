import Derived.Test.YtbjegekfghihkaaB5
import Derived.Test.YtbjegekfghihkaaB4
import Derived.Deep.Slices
import Derived.Deep.Strs
import Derived.Lib.SmallJoins
import Derived.WideShapes
/-
  The laws' own helpers on rows of sites: measured, copied, the same, marked, held.
-/
namespace Go.Proofs.Ytbjegekfghihkaa
open Go.RowKit
set_option linter.unusedVariables false
set_option linter.unusedSimpArgs false

theorem eqSite_at (n0 : Int) (n1 : Int) (n2 : Int) (w : World) : Calls Try.prog 48 #[.agg #[.int .i64 n0, .int .i64 n1, .int .i64 n2], .agg #[.int .i64 n0, .int .i64 n1, .int .i64 n2]] w fun e w' => e = .returned (.bool true) ∧ Below w.heap.size w w' := by
  go_enter Try.func48, Try.ntmps48
  go_wp2
  go_ret
  exact ⟨rfl, by go_grown⟩
set_option maxHeartbeats 400000 in
theorem toSite_at (n0 : Int) (n1 : Int) (n2 : Int) (w : World) : Calls Try.prog 45 #[.agg #[.int .i64 n0, .int .i64 n1, .int .i64 n2]] w fun e w' => e = .returned (.agg #[.int .i64 n0, .int .i64 n1, .int .i64 n2]) ∧ Below w.heap.size w w' := by
  go_enter Try.func45, Try.ntmps45
  go_wp2
  go_returns
  exact ⟨rfl, by go_grown⟩
theorem infoSite : (Try.prog.info? 54).map (fun i => (i.zero, i.size, i.bytes)) = some (some (.agg #[.int .i64 (0), .int .i64 (0), .int .i64 (0)]), 3, 24) := by kernel_rfl
theorem keepC3 {w y : World} {g o g' o' k : Nat} {n0 n1 n2 : Int} (h : (fun z => z.cell? ⟨g, o + k * 3, none⟩ = some (.int .i64 n0) ∧ z.cell? ⟨g, o + k * 3 + 1, none⟩ = some (.int .i64 n1) ∧ z.cell? ⟨g, o + k * 3 + 2, none⟩ = some (.int .i64 n2) ∧ z.cell? ⟨g', o' + k * 3, none⟩ = some (.int .i64 n0) ∧ z.cell? ⟨g', o' + k * 3 + 1, none⟩ = some (.int .i64 n1) ∧ z.cell? ⟨g', o' + k * 3 + 2, none⟩ = some (.int .i64 n2)) w) (hb : Below w.heap.size w y) (hg : g < w.heap.size) (hg' : g' < w.heap.size) : (fun z => z.cell? ⟨g, o + k * 3, none⟩ = some (.int .i64 n0) ∧ z.cell? ⟨g, o + k * 3 + 1, none⟩ = some (.int .i64 n1) ∧ z.cell? ⟨g, o + k * 3 + 2, none⟩ = some (.int .i64 n2) ∧ z.cell? ⟨g', o' + k * 3, none⟩ = some (.int .i64 n0) ∧ z.cell? ⟨g', o' + k * 3 + 1, none⟩ = some (.int .i64 n1) ∧ z.cell? ⟨g', o' + k * 3 + 2, none⟩ = some (.int .i64 n2)) y := by
  obtain ⟨d0, d1, d2, e0, e1, e2⟩ := h
  exact ⟨(hb.cell (p := ⟨g, _, none⟩) hg).trans d0, (hb.cell (p := ⟨g, _, none⟩) hg).trans d1, (hb.cell (p := ⟨g, _, none⟩) hg).trans d2, (hb.cell (p := ⟨g', _, none⟩) hg').trans e0, (hb.cell (p := ⟨g', _, none⟩) hg').trans e1, (hb.cell (p := ⟨g', _, none⟩) hg').trans e2⟩
end Go.Proofs.Ytbjegekfghihkaa

/-
  A state and a row of numbers that are handed in, opened: what they read as.
-/
namespace Go.Proofs.Ytbjegekfghihkaa
open Go.ChangeShapes Go.WideShapes Go.ChangeAt Go.RowKit Go.Joins Go.Deep
set_option linter.unusedVariables false
set_option linter.unusedSimpArgs false

theorem cell_lt {w : World} {a : Addr} {v : Value} (h : w.cell? a = some v) : a.block < w.heap.size := by
  rcases Nat.lt_or_ge a.block w.heap.size with hl | hl
  · exact hl
  · exfalso
    have hn : w.heap[a.block]? = none := by simp; omega
    obtain ⟨b, o, s⟩ := a
    simp only at hn
    simp [World.cell?, hn] at h

section
variable {H : Type} {enc : TypeId × Value → H} {W : World} {spare : Nat → Bool} {held : Bool}

set_option maxRecDepth 100000 in
theorem open_span_cells {fuel : Nat} {cs : List Value} {x : DataW H × List MemPlace} (h : DataW.trod enc Try.prog W 0 spare held fuel 25 cs = some x) :
    ∃ (a : Bool) (l u : Int), cs = [.bool a, .int .i64 l, .int .i64 u] := by
  obtain ⟨y0, y1, y2, n, _, hl, h0, h1, h2⟩ := trod_struct3 Try.underlying25 h
  have hc : Try.prog.cellsOf 25 = 3 := by kernel_rfl
  have hb : Try.prog.cellsOf 4 = 1 := by kernel_rfl
  have hi : Try.prog.cellsOf 3 = 1 := by kernel_rfl
  rw [hc] at hl
  match cs, hl with
  | [c0, c1, c2], _ =>
    simp only [hb, hi, List.drop_zero, List.drop_succ_cons, List.take_succ_cons, List.take_zero] at h0 h1 h2
    obtain ⟨b, e0, _⟩ := DataW.trod_bool Try.underlying4 h0
    obtain ⟨l, e1, _⟩ := DataW.trod_int Try.underlying3 h1
    obtain ⟨u, e2, _⟩ := DataW.trod_int Try.underlying3 h2
    simp at e0 e1 e2
    subst e0 e1 e2
    exact ⟨b, l, u, rfl⟩

theorem list_of {n : Nat} (q : Nat → Sp) : ∃ L : List Sp, L.length = n ∧ ∀ j, j < n → L.getD j noSp = q j :=
  ⟨(List.range n).map q, by simp, fun j hj => by simp [List.getD, hj]⟩

set_option maxRecDepth 100000 in
theorem open_spans {fuel : Nat} {v : Value} {x : DataW H × List MemPlace} (h : DataW.trod enc Try.prog W 0 spare held fuel 23 [v] = some x) :
    ∃ L, SpsAt false W 0 W.heap.size v L := by
  have hc : Try.prog.cellsOf 25 = 3 := by kernel_rfl
  rcases open_slice Try.underlying23 h with ⟨hcs, _⟩ | ⟨a, len, cap, m, n, D, Pl, hcs, _, hl, hm, hmm, _, hx⟩
  · simp at hcs
    subst hcs
    exact ⟨[], SpsAt.nil⟩
  · simp at hcs
    subst hcs
    have hlm : len ≤ m := by rw [hmm]; split <;> omega
    have each : ∀ i, i < len → ∃ q : Sp, W.cell? (a.add (i * 3)) = some (.bool q.1) ∧ W.cell? (a.add (i * 3 + 1)) = some (.int .i64 q.2.1) ∧ W.cell? (a.add (i * 3 + 2)) = some (.int .i64 q.2.2) := by
      intro i hi
      obtain ⟨cs', h1, h2⟩ := hx i (by omega)
      rw [hc] at h1
      obtain ⟨_, hlen, hcell⟩ := World.cells?_some h1
      obtain ⟨b, l, u, rfl⟩ := open_span_cells h2
      have e0 := hcell 0 (by omega)
      have e1 := hcell 1 (by omega)
      have e2 := hcell 2 (by omega)
      rw [add_add] at e0 e1 e2
      exact ⟨(b, l, u), by simpa using e0, by simpa using e1, by simpa using e2⟩
    obtain ⟨q, hq⟩ := choose_lt each
    obtain ⟨L, hL, hget⟩ := list_of (n := len) q
    refine ⟨L, some a, cap, by rw [hL], by rw [hL]; omega, ?_⟩
    rw [hL]
    by_cases h0 : len = 0
    · exact .inl h0
    · right
      obtain ⟨b, off, spot⟩ := a
      have hspot : spot = none := by simpa [Addr.add] using World.cell?_spot (hq 0 (by omega)).1
      subst hspot
      have hlt : b < W.heap.size := by
        have := cell_lt (hq 0 (by omega)).1
        simpa [Addr.add] using this
      refine ⟨b, off, rfl, Nat.zero_le _, hlt, Nat.le_refl _, fun hz => (by cases hz), fun j hj => ?_⟩
      obtain ⟨g0, g1, g2⟩ := hq j hj
      rw [add_plain] at g0 g1 g2
      rw [hget j hj]
      exact ⟨g0, g1, g2⟩

theorem array5 {α : Type} {cs : Array α} (h : cs.size = 5) : ∃ c0 c1 c2 c3 c4, cs = #[c0, c1, c2, c3, c4] := by
  obtain ⟨l⟩ := cs
  match l, h with
  | [c0, c1, c2, c3, c4], _ => exact ⟨c0, c1, c2, c3, c4, rfl⟩

set_option maxRecDepth 100000 in
theorem open_state {r : Reach} {b0 : Nat} {v : Value} {d : DataW H} {p : List MemPlace} (hv : Value.okWide Try.prog W r b0 27 v) (h : DataW.Trod enc Try.prog W 0 spare held 27 v d p) :
    ∃ (a : Bool) (s : Value) (L : List Sp) (c : Bool) (l u : Int), v = .agg #[.bool a, s, .bool c, .int .i64 l, .int .i64 u] ∧ SpsAt false W 0 W.heap.size s L := by
  obtain ⟨cs, rfl, hsz⟩ := okWide_struct Try.underlying27 hv
  have hC : Try.prog.cellsOf 27 = 5 := by kernel_rfl
  have hb : Try.prog.cellsOf 4 = 1 := by kernel_rfl
  have hs : Try.prog.cellsOf 23 = 1 := by kernel_rfl
  have hc : Try.prog.cellsOf 25 = 3 := by kernel_rfl
  obtain ⟨c0, c1, c2, c3, c4, rfl⟩ := array5 (hsz.trans hC)
  obtain ⟨fuel, hf⟩ := h
  obtain ⟨y0, y1, y2, n, _, _, h0, h1, h2⟩ := trod_struct3 Try.underlying27 hf
  simp only [Value.cells, hb, hs, hc, List.drop_zero, List.drop_succ_cons, List.take_succ_cons, List.take_zero] at h0 h1 h2
  obtain ⟨b, e0, _⟩ := DataW.trod_bool Try.underlying4 h0
  obtain ⟨c, l, u, e2⟩ := open_span_cells h2
  obtain ⟨L, hL⟩ := open_spans h1
  simp at e0 e2
  obtain ⟨rfl, rfl, rfl⟩ := e2
  subst e0
  exact ⟨b, c1, L, c, l, u, rfl, hL⟩
end
end Go.Proofs.Ytbjegekfghihkaa
