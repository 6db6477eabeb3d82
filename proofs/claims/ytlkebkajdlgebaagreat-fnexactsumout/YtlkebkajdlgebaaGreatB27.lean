import Derived.Test.YtlkebkajdlgebaaGreatB5
import Derived.Deep.Slices
import Derived.Deep.Strs
import Derived.Lib.SmallJoins
import Derived.WideShapes
import Derived.Test.YtlkebkajdlgebaaGreatB18
import Derived.Test.YtlkebkajdlgebaaGreatB4
/-
  A program that is handed in, opened: what it reads as.
-/
namespace Go.Proofs.YtlkebkajdlgebaaGreat
open Go.ChangeShapes Go.WideShapes Go.ChangeAt Go.RowKit Go.Joins Go.Deep
set_option linter.unusedVariables false
set_option linter.unusedSimpArgs false

theorem cell_ltP {w : World} {a : Addr} {v : Value} (h : w.cell? a = some v) : a.block < w.heap.size := by
  rcases Nat.lt_or_ge a.block w.heap.size with hl | hl
  · exact hl
  · exfalso
    have hn : w.heap[a.block]? = none := by simp; omega
    obtain ⟨b, o, s⟩ := a
    simp only at hn
    simp [World.cell?, hn] at h

section
variable {H : Type} {enc : TypeId × Value → H} {W : World} {spare : Nat → Bool} {held : Bool}

theorem list4 {α : Type} {cs : List α} (h : cs.length = 4) : ∃ c0 c1 c2 c3, cs = [c0, c1, c2, c3] := by
  match cs, h with
  | [c0, c1, c2, c3], _ => exact ⟨c0, c1, c2, c3, rfl⟩
theorem open_ins_cells {fuel : Nat} {cs : List Value} {x : DataW H × List MemPlace} (h : DataW.trod enc Tryz.prog W 0 spare held fuel 126 cs = some x) :
    ∃ k a b c : Int, cs = [.int .i64 k, .int .i64 a, .int .i64 b, .int .i64 c] := by
  obtain ⟨y0, y1, y2, y3, n, _, hl, h0, h1, h2, h3⟩ := trod_struct4 Tryz.underlying126 h
  have hc : Tryz.prog.cellsOf 126 = 4 := by kernel_rfl
  have hi : Tryz.prog.cellsOf 3 = 1 := by kernel_rfl
  rw [hc] at hl
  obtain ⟨c0, c1, c2, c3, rfl⟩ := list4 hl
  simp only [hi, List.drop_zero, List.drop_succ_cons, List.take_succ_cons, List.take_zero] at h0 h1 h2 h3
  obtain ⟨k, e0, _⟩ := DataW.trod_int Tryz.underlying3 h0
  obtain ⟨a, e1, _⟩ := DataW.trod_int Tryz.underlying3 h1
  obtain ⟨b, e2, _⟩ := DataW.trod_int Tryz.underlying3 h2
  obtain ⟨c, e3, _⟩ := DataW.trod_int Tryz.underlying3 h3
  simp at e0 e1 e2 e3
  subst e0 e1 e2 e3
  exact ⟨k, a, b, c, rfl⟩

theorem list_ofP {α : Type} (d : α) {n : Nat} (q : Nat → α) : ∃ L : List α, L.length = n ∧ ∀ j, j < n → L.getD j d = q j :=
  ⟨(List.range n).map q, by simp, fun j hj => by simp [List.getD, hj]⟩

theorem open_code {fuel : Nat} {v : Value} {x : DataW H × List MemPlace} (h : DataW.trod enc Tryz.prog W 0 spare held fuel 62 [v] = some x) :
    ∃ c, CodeAt W 0 v c := by
  have hc : Tryz.prog.cellsOf 126 = 4 := by kernel_rfl
  rcases open_slice Tryz.underlying62 h with ⟨hcs, _⟩ | ⟨a, len, cap, m, n, D, Pl, hcs, _, hl, hm, hmm, _, hx⟩
  · simp at hcs
    subst hcs
    exact ⟨[], none, 0, rfl, Nat.zero_le _, .inl rfl⟩
  · simp at hcs
    subst hcs
    have hlm : len ≤ m := by rw [hmm]; split <;> omega
    have each : ∀ i, i < len → ∃ q : I4, W.cell? (a.add (i * 4)) = some (.int .i64 q.1) ∧ W.cell? (a.add (i * 4 + 1)) = some (.int .i64 q.2.1) ∧ W.cell? (a.add (i * 4 + 2)) = some (.int .i64 q.2.2.1) ∧ W.cell? (a.add (i * 4 + 3)) = some (.int .i64 q.2.2.2) := by
      intro i hi
      obtain ⟨cs', h1, h2⟩ := hx i (by omega)
      rw [hc] at h1
      obtain ⟨_, hlen, hcell⟩ := World.cells?_some h1
      obtain ⟨k, a', b, c, rfl⟩ := open_ins_cells h2
      have e0 := hcell 0 (by omega)
      have e1 := hcell 1 (by omega)
      have e2 := hcell 2 (by omega)
      have e3 := hcell 3 (by omega)
      rw [add_add] at e0 e1 e2 e3
      exact ⟨(k, a', b, c), by simpa using e0, by simpa using e1, by simpa using e2, by simpa using e3⟩
    obtain ⟨q, hq⟩ := choose_lt each
    obtain ⟨L, hL, hget⟩ := list_ofP i0 (n := len) q
    refine ⟨L, some a, cap, by rw [hL], by rw [hL]; omega, ?_⟩
    rw [hL]
    by_cases h0 : len = 0
    · exact .inl h0
    · right
      obtain ⟨b, off, spot⟩ := a
      have hspot : spot = none := by simpa [Addr.add] using World.cell?_spot (hq 0 (by omega)).1
      subst hspot
      have hlt : b < W.heap.size := by
        have := cell_ltP (hq 0 (by omega)).1
        simpa [Addr.add] using this
      refine ⟨b, off, rfl, Nat.zero_le _, hlt, fun j hj => ?_⟩
      obtain ⟨g0, g1, g2, g3⟩ := hq j hj
      rw [add_plain] at g0 g1 g2 g3
      rw [hget j hj]
      exact ⟨g0, g1, g2, g3⟩

theorem open_procs {fuel : Nat} {v : Value} {x : DataW H × List MemPlace} (h : DataW.trod enc Tryz.prog W 0 spare held fuel 22 [v] = some x) :
    ∃ P, ProgAt W 0 v P := by
  have hc : Tryz.prog.cellsOf 64 = 1 := by kernel_rfl
  have hs : Tryz.prog.cellsOf 62 = 1 := by kernel_rfl
  rcases open_slice1 Tryz.underlying22 hc h with ⟨hcs, _⟩ | ⟨a, len, cap, m, n, V, D, Pl, hcs, _, hl, hm, hmm, _, hx⟩
  · simp at hcs
    subst hcs
    exact ⟨[], none, 0, rfl, Nat.zero_le _, .inl rfl⟩
  · simp at hcs
    subst hcs
    have hlm : len ≤ m := by rw [hmm]; split <;> omega
    have each : ∀ i, i < len → ∃ c : List I4, CodeAt W 0 (V i) c := by
      intro i hi
      obtain ⟨_, h2⟩ := hx i (by omega)
      obtain ⟨y0, n', _, _, hy⟩ := trod_struct1 Tryz.underlying64 h2
      simp only [hs, List.drop_zero, List.take_succ_cons, List.take_zero] at hy
      exact open_code hy
    obtain ⟨q, hq⟩ := choose_lt each
    obtain ⟨L, hL, hget⟩ := list_ofP [] (n := len) q
    refine ⟨L, some a, cap, by rw [hL], by rw [hL]; omega, ?_⟩
    rw [hL]
    by_cases h0 : len = 0
    · exact .inl h0
    · right
      obtain ⟨b, off, spot⟩ := a
      have h00 := (hx 0 (by omega)).1
      have hspot : spot = none := by simpa [Addr.add] using World.cell?_spot h00
      subst hspot
      have hlt : b < W.heap.size := by
        have := cell_ltP h00
        simpa [Addr.add] using this
      refine ⟨b, off, rfl, Nat.zero_le _, hlt, fun j hj => ⟨V j, ?_, ?_⟩⟩
      · have := (hx j (by omega)).1
        rw [add_plain] at this
        exact this
      · rw [hget j hj]
        exact hq j hj

theorem open_prog {s : Option Addr} {n cap : Nat} {d : DataW H} {p : List MemPlace} (h : DataW.Trod enc Tryz.prog W 0 spare held 22 (.slice s n cap) d p) : ∃ P, ProgAt W 0 (.slice s n cap) P := by
  obtain ⟨fuel, hf⟩ := h
  exact open_procs hf
end
end Go.Proofs.YtlkebkajdlgebaaGreat

/-
  Sums that are handed in, opened: what they read as.
-/
namespace Go.Proofs.YtlkebkajdlgebaaGreat
open Go.ChangeShapes Go.WideShapes Go.ChangeAt Go.RowKit Go.Joins Go.Deep
set_option linter.unusedVariables false
set_option linter.unusedSimpArgs false

section
variable {H : Type} {enc : TypeId × Value → H} {W : World} {spare : Nat → Bool} {held : Bool}

theorem list_ofZ {α : Type} (d : α) {n : Nat} (q : Nat → α) : ∃ L : List α, L.length = n ∧ ∀ j, j < n → L.getD j d = q j :=
  ⟨(List.range n).map q, by simp, fun j hj => by simp [List.getD, hj]⟩
set_option maxRecDepth 100000 in
theorem open_sites {fuel : Nat} {v : Value} {x : DataW H × List MemPlace} (h : DataW.trod enc Tryz.prog W 0 spare held fuel 87 [v] = some x) : ∃ n N, IRowW 3 W v n N := by
  have hc : Tryz.prog.cellsOf 152 = 3 := by kernel_rfl
  have hi : Tryz.prog.cellsOf 3 = 1 := by kernel_rfl
  rcases open_slice Tryz.underlying87 h with ⟨hcs, _⟩ | ⟨a, len, cap, m, n, D, Pl, hcs, _, hl, hm, hmm, _, hx⟩
  · simp at hcs
    subst hcs
    exact ⟨0, fun _ => 0, IRow.any (z := false) (B := 0) (E := 0) IRow.nil⟩
  · simp at hcs
    subst hcs
    have hlm : len ≤ m := by rw [hmm]; split <;> omega
    have each : ∀ i, i < len → ∃ f : Int × Int × Int, W.cell? (a.add (i * 3)) = some (.int .i64 f.1) ∧ W.cell? (a.add (i * 3 + 1)) = some (.int .i64 f.2.1) ∧ W.cell? (a.add (i * 3 + 2)) = some (.int .i64 f.2.2) := by
      intro i hi'
      obtain ⟨cs', h1, h2⟩ := hx i (by omega)
      rw [hc] at h1
      obtain ⟨_, hlen, hcell⟩ := World.cells?_some h1
      obtain ⟨y0, y1, y2, n', _, hl3, k0, k1, k2⟩ := trod_struct3 Tryz.underlying152 h2
      rw [hc] at hl3
      match cs', hl3 with
      | [c0, c1, c2], _ =>
        simp only [hi, List.drop_zero, List.drop_succ_cons, List.take_succ_cons, List.take_zero] at k0 k1 k2
        obtain ⟨z0, e0, _⟩ := DataW.trod_int Tryz.underlying3 k0
        obtain ⟨z1, e1, _⟩ := DataW.trod_int Tryz.underlying3 k1
        obtain ⟨z2, e2, _⟩ := DataW.trod_int Tryz.underlying3 k2
        simp at e0 e1 e2
        subst e0 e1 e2
        have g0 := hcell 0 (by omega)
        have g1 := hcell 1 (by omega)
        have g2 := hcell 2 (by omega)
        rw [add_add] at g0 g1 g2
        exact ⟨(z0, z1, z2), by simpa using g0, by simpa using g1, by simpa using g2⟩
    obtain ⟨q, hq⟩ := choose_lt each
    refine ⟨len, fun j => if j % 3 = 0 then (q (j / 3)).1 else if j % 3 = 1 then (q (j / 3)).2.1 else (q (j / 3)).2.2, some a, cap, rfl, by omega, ?_⟩
    by_cases h0 : len = 0
    · exact .inl h0
    · right
      obtain ⟨b, off, spot⟩ := a
      have hspot : spot = none := by simpa [Addr.add] using World.cell?_spot (hq 0 (by omega)).1
      subst hspot
      have hlt : b < W.heap.size := by
        have := cell_lt (hq 0 (by omega)).1
        simpa [Addr.add] using this
      refine ⟨b, off, rfl, Nat.zero_le _, hlt, Nat.le_refl _, fun h => (by cases h), fun j hj => ?_⟩
      obtain ⟨g0, g1, g2⟩ := hq (j / 3) (by omega)
      rw [add_plain] at g0 g1 g2
      rcases (by omega : j = j / 3 * 3 ∨ j = j / 3 * 3 + 1 ∨ j = j / 3 * 3 + 2) with e | e | e
      · have h3 : j % 3 = 0 := by omega
        dsimp only; rw [if_pos h3]; rw [← e] at g0; exact g0
      · have h3 : j % 3 = 1 := by omega
        dsimp only; rw [if_neg (by omega), if_pos h3]; rw [← e] at g1; exact g1
      · have h3 : j % 3 = 2 := by omega
        dsimp only; rw [if_neg (by omega), if_neg (by omega)]; rw [← e] at g2; exact g2
set_option maxRecDepth 100000 in
theorem open_calls {fuel : Nat} {v : Value} {x : DataW H × List MemPlace} (h : DataW.trod enc Tryz.prog W 0 spare held fuel 88 [v] = some x) : ∃ n N, IRowW 2 W v n N := by
  have hc : Tryz.prog.cellsOf 154 = 2 := by kernel_rfl
  have hi : Tryz.prog.cellsOf 3 = 1 := by kernel_rfl
  rcases open_slice Tryz.underlying88 h with ⟨hcs, _⟩ | ⟨a, len, cap, m, n, D, Pl, hcs, _, hl, hm, hmm, _, hx⟩
  · simp at hcs
    subst hcs
    exact ⟨0, fun _ => 0, IRow.any (z := false) (B := 0) (E := 0) IRow.nil⟩
  · simp at hcs
    subst hcs
    have hlm : len ≤ m := by rw [hmm]; split <;> omega
    have each : ∀ i, i < len → ∃ f : Int × Int, W.cell? (a.add (i * 2)) = some (.int .i64 f.1) ∧ W.cell? (a.add (i * 2 + 1)) = some (.int .i64 f.2) := by
      intro i hi'
      obtain ⟨cs', h1, h2⟩ := hx i (by omega)
      rw [hc] at h1
      obtain ⟨_, hlen, hcell⟩ := World.cells?_some h1
      obtain ⟨y0, y1, n', _, hl3, k0, k1⟩ := trod_struct2 Tryz.underlying154 h2
      rw [hc] at hl3
      match cs', hl3 with
      | [c0, c1], _ =>
        simp only [hi, List.drop_zero, List.drop_succ_cons, List.take_succ_cons, List.take_zero] at k0 k1
        obtain ⟨z0, e0, _⟩ := DataW.trod_int Tryz.underlying3 k0
        obtain ⟨z1, e1, _⟩ := DataW.trod_int Tryz.underlying3 k1
        simp at e0 e1
        subst e0 e1
        have g0 := hcell 0 (by omega)
        have g1 := hcell 1 (by omega)
        rw [add_add] at g0 g1
        exact ⟨(z0, z1), by simpa using g0, by simpa using g1⟩
    obtain ⟨q, hq⟩ := choose_lt each
    refine ⟨len, fun j => if j % 2 = 0 then (q (j / 2)).1 else (q (j / 2)).2, some a, cap, rfl, by omega, ?_⟩
    by_cases h0 : len = 0
    · exact .inl h0
    · right
      obtain ⟨b, off, spot⟩ := a
      have hspot : spot = none := by simpa [Addr.add] using World.cell?_spot (hq 0 (by omega)).1
      subst hspot
      have hlt : b < W.heap.size := by
        have := cell_lt (hq 0 (by omega)).1
        simpa [Addr.add] using this
      refine ⟨b, off, rfl, Nat.zero_le _, hlt, Nat.le_refl _, fun h => (by cases h), fun j hj => ?_⟩
      obtain ⟨g0, g1⟩ := hq (j / 2) (by omega)
      rw [add_plain] at g0 g1
      rcases (by omega : j = j / 2 * 2 ∨ j = j / 2 * 2 + 1) with e | e
      · have h3 : j % 2 = 0 := by omega
        dsimp only; rw [if_pos h3]; rw [← e] at g0; exact g0
      · dsimp only; rw [if_neg (by omega)]; rw [← e] at g1; exact g1

set_option maxRecDepth 100000 in
theorem open_row_cells {fuel : Nat} {cs : List Value} {x : DataW H × List MemPlace} (h : DataW.trod enc Tryz.prog W 0 spare held fuel 90 cs = some x) :
    ∃ (r : Rw) (u v : Value), cs = [.bool r.o.1, .int .i64 r.o.2.1, .int .i64 r.o.2.2, u, v] ∧ IRowW 3 W u r.ns r.S ∧ IRowW 2 W v r.nc r.C := by
  obtain ⟨y0, y1, y2, n, _, hl, h0, h1, h2⟩ := trod_struct3 Tryz.underlying90 h
  have hc : Tryz.prog.cellsOf 90 = 5 := by kernel_rfl
  have hs : Tryz.prog.cellsOf 46 = 3 := by kernel_rfl
  have h3 : Tryz.prog.cellsOf 87 = 1 := by kernel_rfl
  have h4 : Tryz.prog.cellsOf 88 = 1 := by kernel_rfl
  rw [hc] at hl
  match cs, hl with
  | [c0, c1, c2, c3, c4], _ =>
    simp only [hs, h3, h4, List.drop_zero, List.drop_succ_cons, List.take_succ_cons, List.take_zero] at h0 h1 h2
    obtain ⟨b, l, u, e0⟩ := open_span_cells h0
    obtain ⟨ns, S, i3⟩ := open_sites h1
    obtain ⟨nc, C, i4⟩ := open_calls h2
    simp at e0
    obtain ⟨rfl, rfl, rfl⟩ := e0
    exact ⟨⟨(b, l, u), ns, S, nc, C⟩, c3, c4, rfl, i3, i4⟩

set_option maxRecDepth 100000 in
theorem open_rows {fuel : Nat} {v : Value} {x : DataW H × List MemPlace} (h : DataW.trod enc Tryz.prog W 0 spare held fuel 23 [v] = some x) :
    ∃ R, RowsAt W v R := by
  have hc : Tryz.prog.cellsOf 90 = 5 := by kernel_rfl
  rcases open_slice Tryz.underlying23 h with ⟨hcs, _⟩ | ⟨a, len, cap, m, n, D, Pl, hcs, _, hl, hm, hmm, _, hx⟩
  · simp at hcs
    subst hcs
    exact ⟨[], RowsAt.nil⟩
  · simp at hcs
    subst hcs
    have hlm : len ≤ m := by rw [hmm]; split <;> omega
    have each : ∀ i, i < len → ∃ f : Rw, W.cell? (a.add (i * 5)) = some (.bool f.o.1) ∧ W.cell? (a.add (i * 5 + 1)) = some (.int .i64 f.o.2.1) ∧ W.cell? (a.add (i * 5 + 2)) = some (.int .i64 f.o.2.2) ∧ (∃ u, W.cell? (a.add (i * 5 + 3)) = some u ∧ IRowW 3 W u f.ns f.S) ∧ (∃ u, W.cell? (a.add (i * 5 + 4)) = some u ∧ IRowW 2 W u f.nc f.C) := by
      intro i hi
      obtain ⟨cs', h1, h2⟩ := hx i (by omega)
      rw [hc] at h1
      obtain ⟨_, hlen, hcell⟩ := World.cells?_some h1
      obtain ⟨f, u, v, rfl, hu, hv⟩ := open_row_cells h2
      have e0 := hcell 0 (by omega)
      have e1 := hcell 1 (by omega)
      have e2 := hcell 2 (by omega)
      have e3 := hcell 3 (by omega)
      have e4 := hcell 4 (by omega)
      rw [add_add] at e0 e1 e2 e3 e4
      exact ⟨f, by simpa using e0, by simpa using e1, by simpa using e2, ⟨u, by simpa using e3, hu⟩, ⟨v, by simpa using e4, hv⟩⟩
    haveI : Inhabited Rw := ⟨rw0⟩
    obtain ⟨q, hq⟩ := choose_lt each
    obtain ⟨L, hL, hget⟩ := list_ofZ rw0 (n := len) q
    refine ⟨L, some a, cap, by rw [hL], by rw [hL]; omega, ?_⟩
    rw [hL]
    by_cases h0 : len = 0
    · exact .inl h0
    · right
      obtain ⟨b, off, spot⟩ := a
      have hspot : spot = none := by simpa [Addr.add] using World.cell?_spot (hq 0 (by omega)).1
      subst hspot
      have hlt : b < W.heap.size := by
        have := cell_lt (hq 0 (by omega)).1
        simpa [Addr.add] using this
      refine ⟨b, off, rfl, hlt, fun j hj => ?_⟩
      obtain ⟨g0, g1, g2, ⟨u3, g3, i3⟩, ⟨u4, g4, i4⟩⟩ := hq j hj
      rw [add_plain] at g0 g1 g2 g3 g4
      rw [hget j hj]
      exact ⟨g0, g1, g2, ⟨u3, g3, i3⟩, ⟨u4, g4, i4⟩⟩

theorem array2 {α : Type} {cs : Array α} (h : cs.size = 2) : ∃ c0 c1, cs = #[c0, c1] := by
  obtain ⟨l⟩ := cs
  match l, h with
  | [c0, c1], _ => exact ⟨c0, c1, rfl⟩
set_option maxRecDepth 100000 in
theorem open_sum_cells {fuel : Nat} {cs : List Value} {x : DataW H × List MemPlace} (h : DataW.trod enc Tryz.prog W 0 spare held fuel 25 cs = some x) :
    ∃ (s : Sm) (u : Value), cs = [.int .i64 s.p, u] ∧ RowsAt W u s.R := by
  obtain ⟨y0, y1, n, _, hl, h0, h1⟩ := trod_struct2 Tryz.underlying25 h
  have hc : Tryz.prog.cellsOf 25 = 2 := by kernel_rfl
  have hi : Tryz.prog.cellsOf 3 = 1 := by kernel_rfl
  have hr : Tryz.prog.cellsOf 23 = 1 := by kernel_rfl
  rw [hc] at hl
  match cs, hl with
  | [c0, c1], _ =>
    simp only [hi, hr, List.drop_zero, List.drop_succ_cons, List.take_succ_cons, List.take_zero] at h0 h1
    obtain ⟨z0, e0, _⟩ := DataW.trod_int Tryz.underlying3 h0
    obtain ⟨R, hR⟩ := open_rows h1
    simp at e0
    subst e0
    exact ⟨⟨z0, R⟩, c1, rfl, hR⟩
set_option maxRecDepth 100000 in
theorem open_sum {r : Reach} {b0 : Nat} {v : Value} {d : DataW H} {p : List MemPlace} (hv : Value.okWide Tryz.prog W r b0 25 v) (h : DataW.Trod enc Tryz.prog W 0 spare held 25 v d p) :
    ∃ (n : Int) (s : Value) (R : List Rw), v = .agg #[.int .i64 n, s] ∧ RowsAt W s R := by
  obtain ⟨cs, rfl, hsz⟩ := okWide_struct Tryz.underlying25 hv
  have hC : Tryz.prog.cellsOf 25 = 2 := by kernel_rfl
  obtain ⟨c0, c1, rfl⟩ := array2 (hsz.trans hC)
  obtain ⟨fuel, hf⟩ := h
  obtain ⟨s, u, e, hR⟩ := open_sum_cells hf
  simp [Value.cells] at e
  obtain ⟨rfl, rfl⟩ := e
  exact ⟨s.p, c1, s.R, rfl, hR⟩
set_option maxRecDepth 100000 in
theorem open_sums {fuel : Nat} {v : Value} {x : DataW H × List MemPlace} (h : DataW.trod enc Tryz.prog W 0 spare held fuel 38 [v] = some x) :
    ∃ M, SmsAt W v M := by
  have hc : Tryz.prog.cellsOf 25 = 2 := by kernel_rfl
  rcases open_slice Tryz.underlying38 h with ⟨hcs, _⟩ | ⟨a, len, cap, m, n, D, Pl, hcs, _, hl, hm, hmm, _, hx⟩
  · simp at hcs
    subst hcs
    exact ⟨[], SmsAt.nil⟩
  · simp at hcs
    subst hcs
    have hlm : len ≤ m := by rw [hmm]; split <;> omega
    have each : ∀ i, i < len → ∃ f : Sm, W.cell? (a.add (i * 2)) = some (.int .i64 f.p) ∧ (∃ u, W.cell? (a.add (i * 2 + 1)) = some u ∧ RowsAt W u f.R) := by
      intro i hi
      obtain ⟨cs', h1, h2⟩ := hx i (by omega)
      rw [hc] at h1
      obtain ⟨_, hlen, hcell⟩ := World.cells?_some h1
      obtain ⟨f, u, rfl, hu⟩ := open_sum_cells h2
      have e0 := hcell 0 (by omega)
      have e1 := hcell 1 (by omega)
      rw [add_add] at e0 e1
      exact ⟨f, by simpa using e0, ⟨u, by simpa using e1, hu⟩⟩
    haveI : Inhabited Sm := ⟨sm0⟩
    obtain ⟨q, hq⟩ := choose_lt each
    obtain ⟨L, hL, hget⟩ := list_ofZ sm0 (n := len) q
    refine ⟨L, some a, cap, by rw [hL], by rw [hL]; omega, ?_⟩
    rw [hL]
    by_cases h0 : len = 0
    · exact .inl h0
    · right
      obtain ⟨b, off, spot⟩ := a
      have hspot : spot = none := by simpa [Addr.add] using World.cell?_spot (hq 0 (by omega)).1
      subst hspot
      have hlt : b < W.heap.size := by
        have := cell_lt (hq 0 (by omega)).1
        simpa [Addr.add] using this
      refine ⟨b, off, rfl, hlt, fun j hj => ?_⟩
      obtain ⟨g0, ⟨u1, g1, i1⟩⟩ := hq j hj
      rw [add_plain] at g0 g1
      rw [hget j hj]
      exact ⟨g0, ⟨u1, g1, i1⟩⟩
theorem open_sums_at {s : Option Addr} {n cap : Nat} {d : DataW H} {p : List MemPlace} (h : DataW.Trod enc Tryz.prog W 0 spare held 38 (.slice s n cap) d p) : ∃ M, SmsAt W (.slice s n cap) M := by
  obtain ⟨fuel, hf⟩ := h
  exact open_sums hf
end
end Go.Proofs.YtlkebkajdlgebaaGreat
