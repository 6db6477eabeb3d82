import Derived.Test.YtlkebkajdlgebaaB1
import Derived.Deep.Slices
import Derived.Deep.Strs
import Derived.Lib.SmallJoins
import Derived.WideShapes
/-
  A program that is handed in, opened: what it reads as.
-/
namespace Go.Proofs.Ytlkebkajdlgebaa
open Go.ChangeShapes Go.WideShapes Go.ChangeAt Go.RowKit Go.Joins Go.Deep
set_option linter.unusedVariables false
set_option linter.unusedSimpArgs false

theorem cell_ltP {w : World} {a : Addr} {v : Value} (h : w.cell? a = some v) : a.block < w.heap.size := by
  rcases Nat.lt_or_ge a.block w.heap.size with hl | hl
  · exact hl
  · exfalso
    have hn : w.heap[a.block]? = none := by simp; omega
    obtain ⟨b, o, s⟩ := a
    simp only at hn
    simp [World.cell?, hn] at h

section
variable {H : Type} {enc : TypeId × Value → H} {W : World} {spare : Nat → Bool} {held : Bool}

theorem list4 {α : Type} {cs : List α} (h : cs.length = 4) : ∃ c0 c1 c2 c3, cs = [c0, c1, c2, c3] := by
  match cs, h with
  | [c0, c1, c2, c3], _ => exact ⟨c0, c1, c2, c3, rfl⟩
theorem open_ins_cells {fuel : Nat} {cs : List Value} {x : DataW H × List MemPlace} (h : DataW.trod enc Try.prog W 0 spare held fuel 79 cs = some x) :
    ∃ k a b c : Int, cs = [.int .i64 k, .int .i64 a, .int .i64 b, .int .i64 c] := by
  obtain ⟨y0, y1, y2, y3, n, _, hl, h0, h1, h2, h3⟩ := trod_struct4 Try.underlying79 h
  have hc : Try.prog.cellsOf 79 = 4 := by kernel_rfl
  have hi : Try.prog.cellsOf 3 = 1 := by kernel_rfl
  rw [hc] at hl
  obtain ⟨c0, c1, c2, c3, rfl⟩ := list4 hl
  simp only [hi, List.drop_zero, List.drop_succ_cons, List.take_succ_cons, List.take_zero] at h0 h1 h2 h3
  obtain ⟨k, e0, _⟩ := DataW.trod_int Try.underlying3 h0
  obtain ⟨a, e1, _⟩ := DataW.trod_int Try.underlying3 h1
  obtain ⟨b, e2, _⟩ := DataW.trod_int Try.underlying3 h2
  obtain ⟨c, e3, _⟩ := DataW.trod_int Try.underlying3 h3
  simp at e0 e1 e2 e3
  subst e0 e1 e2 e3
  exact ⟨k, a, b, c, rfl⟩

theorem list_ofP {α : Type} (d : α) {n : Nat} (q : Nat → α) : ∃ L : List α, L.length = n ∧ ∀ j, j < n → L.getD j d = q j :=
  ⟨(List.range n).map q, by simp, fun j hj => by simp [List.getD, hj]⟩

theorem open_code {fuel : Nat} {v : Value} {x : DataW H × List MemPlace} (h : DataW.trod enc Try.prog W 0 spare held fuel 45 [v] = some x) :
    ∃ c, CodeAt W 0 v c := by
  have hc : Try.prog.cellsOf 79 = 4 := by kernel_rfl
  rcases open_slice Try.underlying45 h with ⟨hcs, _⟩ | ⟨a, len, cap, m, n, D, Pl, hcs, _, hl, hm, hmm, _, hx⟩
  · simp at hcs
    subst hcs
    exact ⟨[], none, 0, rfl, Nat.zero_le _, .inl rfl⟩
  · simp at hcs
    subst hcs
    have hlm : len ≤ m := by rw [hmm]; split <;> omega
    have each : ∀ i, i < len → ∃ q : I4, W.cell? (a.add (i * 4)) = some (.int .i64 q.1) ∧ W.cell? (a.add (i * 4 + 1)) = some (.int .i64 q.2.1) ∧ W.cell? (a.add (i * 4 + 2)) = some (.int .i64 q.2.2.1) ∧ W.cell? (a.add (i * 4 + 3)) = some (.int .i64 q.2.2.2) := by
      intro i hi
      obtain ⟨cs', h1, h2⟩ := hx i (by omega)
      rw [hc] at h1
      obtain ⟨_, hlen, hcell⟩ := World.cells?_some h1
      obtain ⟨k, a', b, c, rfl⟩ := open_ins_cells h2
      have e0 := hcell 0 (by omega)
      have e1 := hcell 1 (by omega)
      have e2 := hcell 2 (by omega)
      have e3 := hcell 3 (by omega)
      rw [add_add] at e0 e1 e2 e3
      exact ⟨(k, a', b, c), by simpa using e0, by simpa using e1, by simpa using e2, by simpa using e3⟩
    obtain ⟨q, hq⟩ := choose_lt each
    obtain ⟨L, hL, hget⟩ := list_ofP i0 (n := len) q
    refine ⟨L, some a, cap, by rw [hL], by rw [hL]; omega, ?_⟩
    rw [hL]
    by_cases h0 : len = 0
    · exact .inl h0
    · right
      obtain ⟨b, off, spot⟩ := a
      have hspot : spot = none := by simpa [Addr.add] using World.cell?_spot (hq 0 (by omega)).1
      subst hspot
      have hlt : b < W.heap.size := by
        have := cell_ltP (hq 0 (by omega)).1
        simpa [Addr.add] using this
      refine ⟨b, off, rfl, Nat.zero_le _, hlt, fun j hj => ?_⟩
      obtain ⟨g0, g1, g2, g3⟩ := hq j hj
      rw [add_plain] at g0 g1 g2 g3
      rw [hget j hj]
      exact ⟨g0, g1, g2, g3⟩

theorem open_procs {fuel : Nat} {v : Value} {x : DataW H × List MemPlace} (h : DataW.trod enc Try.prog W 0 spare held fuel 22 [v] = some x) :
    ∃ P, ProgAt W 0 v P := by
  have hc : Try.prog.cellsOf 47 = 1 := by kernel_rfl
  have hs : Try.prog.cellsOf 45 = 1 := by kernel_rfl
  rcases open_slice1 Try.underlying22 hc h with ⟨hcs, _⟩ | ⟨a, len, cap, m, n, V, D, Pl, hcs, _, hl, hm, hmm, _, hx⟩
  · simp at hcs
    subst hcs
    exact ⟨[], none, 0, rfl, Nat.zero_le _, .inl rfl⟩
  · simp at hcs
    subst hcs
    have hlm : len ≤ m := by rw [hmm]; split <;> omega
    have each : ∀ i, i < len → ∃ c : List I4, CodeAt W 0 (V i) c := by
      intro i hi
      obtain ⟨_, h2⟩ := hx i (by omega)
      obtain ⟨y0, n', _, _, hy⟩ := trod_struct1 Try.underlying47 h2
      simp only [hs, List.drop_zero, List.take_succ_cons, List.take_zero] at hy
      exact open_code hy
    obtain ⟨q, hq⟩ := choose_lt each
    obtain ⟨L, hL, hget⟩ := list_ofP [] (n := len) q
    refine ⟨L, some a, cap, by rw [hL], by rw [hL]; omega, ?_⟩
    rw [hL]
    by_cases h0 : len = 0
    · exact .inl h0
    · right
      obtain ⟨b, off, spot⟩ := a
      have h00 := (hx 0 (by omega)).1
      have hspot : spot = none := by simpa [Addr.add] using World.cell?_spot h00
      subst hspot
      have hlt : b < W.heap.size := by
        have := cell_ltP h00
        simpa [Addr.add] using this
      refine ⟨b, off, rfl, Nat.zero_le _, hlt, fun j hj => ⟨V j, ?_, ?_⟩⟩
      · have := (hx j (by omega)).1
        rw [add_plain] at this
        exact this
      · rw [hget j hj]
        exact hq j hj

theorem open_prog {s : Option Addr} {n cap : Nat} {d : DataW H} {p : List MemPlace} (h : DataW.Trod enc Try.prog W 0 spare held 22 (.slice s n cap) d p) : ∃ P, ProgAt W 0 (.slice s n cap) P := by
  obtain ⟨fuel, hf⟩ := h
  exact open_procs hf
end
end Go.Proofs.Ytlkebkajdlgebaa
