import Derived.Test.YtbjegekfghihkaaB7
import Derived.Deep.Slices
import Derived.Deep.Strs
import Derived.Lib.SmallJoins
import Derived.WideShapes
/-
  A run that is handed in, opened: what it reads as.
-/
namespace Go.Proofs.Ytbjegekfghihkaa
open Go.ChangeShapes Go.WideShapes Go.ChangeAt Go.RowKit Go.Joins Go.Deep
set_option linter.unusedVariables false
set_option linter.unusedSimpArgs false

section
variable {H : Type} {enc : TypeId × Value → H} {W : World} {spare : Nat → Bool} {held : Bool}

theorem list6 {α : Type} {cs : List α} (h : cs.length = 6) : ∃ c0 c1 c2 c3 c4 c5, cs = [c0, c1, c2, c3, c4, c5] := by
  match cs, h with
  | [c0, c1, c2, c3, c4, c5], _ => exact ⟨c0, c1, c2, c3, c4, c5, rfl⟩
theorem list_ofR {α : Type} (d : α) {n : Nat} (q : Nat → α) : ∃ L : List α, L.length = n ∧ ∀ j, j < n → L.getD j d = q j :=
  ⟨(List.range n).map q, by simp, fun j hj => by simp [List.getD, hj]⟩
theorem open_intsW {fuel : Nat} {v : Value} {x : DataW H × List MemPlace} (h : DataW.trod enc Try.prog W 0 spare held fuel 97 [v] = some x) : ∃ L, IntsW W v L := by
  rcases open_slice1 Try.underlying97 (by kernel_rfl) h with ⟨hcs, _⟩ | ⟨a, len, cap, m, n, V, D, Pl, hcs, _⟩
  · simp at hcs
    subst hcs
    exact ⟨[], IntsAt.any (z := false) (B := 0) (E := 0) IntsAt.nil⟩
  · simp at hcs
    subst hcs
    obtain ⟨d, p⟩ := x
    obtain ⟨L, hL⟩ := open_ints_at (enc := enc) (held := held) rfl ⟨fuel, h⟩
    exact ⟨L, hL⟩
set_option maxRecDepth 100000 in
theorem open_frame_cells {fuel : Nat} {cs : List Value} {x : DataW H × List MemPlace} (h : DataW.trod enc Try.prog W 0 spare held fuel 113 cs = some x) :
    ∃ (f : Fr) (u v : Value), cs = [.int .i64 f.p, .int .i64 f.a, .int .i64 f.t, u, v, .int .i64 f.i] ∧ IntsW W u f.r ∧ IntsW W v f.c := by
  obtain ⟨xs, n, _, _, hl, hlen, hf⟩ := DataW.trod_struct Try.underlying113 h
  have hc : Try.prog.cellsOf 113 = 6 := by kernel_rfl
  have hi : Try.prog.cellsOf 3 = 1 := by kernel_rfl
  have hs : Try.prog.cellsOf 97 = 1 := by kernel_rfl
  rw [hc] at hl
  obtain ⟨c0, c1, c2, c3, c4, c5, rfl⟩ := list6 hl
  match xs, hlen with
  | [y0, y1, y2, y3, y4, y5], _ =>
    have h0 : DataW.trod enc Try.prog W 0 spare held n 3 (([c0, c1, c2, c3, c4, c5].drop 0).take (Try.prog.cellsOf 3)) = some y0 := hf 0 _ rfl
    have h1 : DataW.trod enc Try.prog W 0 spare held n 3 (([c0, c1, c2, c3, c4, c5].drop 1).take (Try.prog.cellsOf 3)) = some y1 := hf 1 _ rfl
    have h2 : DataW.trod enc Try.prog W 0 spare held n 3 (([c0, c1, c2, c3, c4, c5].drop 2).take (Try.prog.cellsOf 3)) = some y2 := hf 2 _ rfl
    have h3 : DataW.trod enc Try.prog W 0 spare held n 97 (([c0, c1, c2, c3, c4, c5].drop 3).take (Try.prog.cellsOf 97)) = some y3 := hf 3 _ rfl
    have h4 : DataW.trod enc Try.prog W 0 spare held n 97 (([c0, c1, c2, c3, c4, c5].drop 4).take (Try.prog.cellsOf 97)) = some y4 := hf 4 _ rfl
    have h5 : DataW.trod enc Try.prog W 0 spare held n 3 (([c0, c1, c2, c3, c4, c5].drop 5).take (Try.prog.cellsOf 3)) = some y5 := hf 5 _ rfl
    simp only [hi, hs, List.drop_zero, List.drop_succ_cons, List.take_succ_cons, List.take_zero] at h0 h1 h2 h3 h4 h5
    obtain ⟨n0, e0, _⟩ := DataW.trod_int Try.underlying3 h0
    obtain ⟨n1, e1, _⟩ := DataW.trod_int Try.underlying3 h1
    obtain ⟨n2, e2, _⟩ := DataW.trod_int Try.underlying3 h2
    obtain ⟨L3, i3⟩ := open_intsW h3
    obtain ⟨L4, i4⟩ := open_intsW h4
    obtain ⟨n5, e5, _⟩ := DataW.trod_int Try.underlying3 h5
    simp at e0 e1 e2 e5
    subst e0 e1 e2 e5
    exact ⟨⟨n0, n1, n2, n5, L3, L4⟩, c3, c4, rfl, i3, i4⟩

set_option maxRecDepth 100000 in
theorem open_frames {fuel : Nat} {v : Value} {x : DataW H × List MemPlace} (h : DataW.trod enc Try.prog W 0 spare held fuel 46 [v] = some x) :
    ∃ F, FrsAt W v F := by
  have hc : Try.prog.cellsOf 113 = 6 := by kernel_rfl
  rcases open_slice Try.underlying46 h with ⟨hcs, _⟩ | ⟨a, len, cap, m, n, D, Pl, hcs, _, hl, hm, hmm, _, hx⟩
  · simp at hcs
    subst hcs
    exact ⟨[], FrsAt.nil⟩
  · simp at hcs
    subst hcs
    have hlm : len ≤ m := by rw [hmm]; split <;> omega
    have each : ∀ i, i < len → ∃ f : Fr, W.cell? (a.add (i * 6)) = some (.int .i64 f.p) ∧ W.cell? (a.add (i * 6 + 1)) = some (.int .i64 f.a) ∧ W.cell? (a.add (i * 6 + 2)) = some (.int .i64 f.t) ∧ (∃ u, W.cell? (a.add (i * 6 + 3)) = some u ∧ IntsW W u f.r) ∧ (∃ u, W.cell? (a.add (i * 6 + 4)) = some u ∧ IntsW W u f.c) ∧ W.cell? (a.add (i * 6 + 5)) = some (.int .i64 f.i) := by
      intro i hi
      obtain ⟨cs', h1, h2⟩ := hx i (by omega)
      rw [hc] at h1
      obtain ⟨_, hlen, hcell⟩ := World.cells?_some h1
      obtain ⟨f, u, v, rfl, hu, hv⟩ := open_frame_cells h2
      have e0 := hcell 0 (by omega)
      have e1 := hcell 1 (by omega)
      have e2 := hcell 2 (by omega)
      have e3 := hcell 3 (by omega)
      have e4 := hcell 4 (by omega)
      have e5 := hcell 5 (by omega)
      rw [add_add] at e0 e1 e2 e3 e4 e5
      exact ⟨f, by simpa using e0, by simpa using e1, by simpa using e2, ⟨u, by simpa using e3, hu⟩, ⟨v, by simpa using e4, hv⟩, by simpa using e5⟩
    obtain ⟨q, hq⟩ := choose_lt each
    obtain ⟨L, hL, hget⟩ := list_ofR fr0 (n := len) q
    refine ⟨L, some a, cap, by rw [hL], by rw [hL]; omega, ?_⟩
    rw [hL]
    by_cases h0 : len = 0
    · exact .inl h0
    · right
      obtain ⟨b, off, spot⟩ := a
      have hspot : spot = none := by simpa [Addr.add] using World.cell?_spot (hq 0 (by omega)).1
      subst hspot
      have hlt : b < W.heap.size := by
        have := cell_lt (hq 0 (by omega)).1
        simpa [Addr.add] using this
      refine ⟨b, off, rfl, hlt, fun j hj => ?_⟩
      obtain ⟨g0, g1, g2, ⟨u3, g3, i3⟩, ⟨u4, g4, i4⟩, g5⟩ := hq j hj
      rw [add_plain] at g0 g1 g2 g3 g4 g5
      rw [hget j hj]
      exact ⟨g0, g1, g2, ⟨u3, g3, i3⟩, ⟨u4, g4, i4⟩, g5⟩

theorem array7 {α : Type} {cs : Array α} (h : cs.size = 7) : ∃ c0 c1 c2 c3 c4 c5 c6, cs = #[c0, c1, c2, c3, c4, c5, c6] := by
  obtain ⟨l⟩ := cs
  match l, h with
  | [c0, c1, c2, c3, c4, c5, c6], _ => exact ⟨c0, c1, c2, c3, c4, c5, c6, rfl⟩

set_option maxRecDepth 100000 in
theorem open_run {r : Reach} {b0 : Nat} {v : Value} {d : DataW H} {p : List MemPlace} (hv : Value.okWide Try.prog W r b0 50 v) (h : DataW.Trod enc Try.prog W 0 spare held 50 v d p) :
    ∃ (s : Value) (F : List Fr) (n e o k t f : Int), v = .agg #[s, .int .i64 n, .int .i64 e, .int .i64 o, .int .i64 k, .int .i64 t, .int .i64 f] ∧ FrsAt W s F := by
  obtain ⟨cs, rfl, hsz⟩ := okWide_struct Try.underlying50 hv
  have hC : Try.prog.cellsOf 50 = 7 := by kernel_rfl
  have hi : Try.prog.cellsOf 3 = 1 := by kernel_rfl
  have hs : Try.prog.cellsOf 46 = 1 := by kernel_rfl
  have ht : Try.prog.cellsOf 48 = 3 := by kernel_rfl
  obtain ⟨c0, c1, c2, c3, c4, c5, c6, rfl⟩ := array7 (hsz.trans hC)
  obtain ⟨fuel, hf⟩ := h
  obtain ⟨xs, n, _, _, hl, hlen, hx⟩ := DataW.trod_struct Try.underlying50 hf
  match xs, hlen with
  | [y0, y1, y2, y3, y4], _ =>
    have h0 : DataW.trod enc Try.prog W 0 spare held n 46 (([c0, c1, c2, c3, c4, c5, c6].drop 0).take (Try.prog.cellsOf 46)) = some y0 := hx 0 _ rfl
    have h1 : DataW.trod enc Try.prog W 0 spare held n 3 (([c0, c1, c2, c3, c4, c5, c6].drop 1).take (Try.prog.cellsOf 3)) = some y1 := hx 1 _ rfl
    have h2 : DataW.trod enc Try.prog W 0 spare held n 3 (([c0, c1, c2, c3, c4, c5, c6].drop 2).take (Try.prog.cellsOf 3)) = some y2 := hx 2 _ rfl
    have h3 : DataW.trod enc Try.prog W 0 spare held n 3 (([c0, c1, c2, c3, c4, c5, c6].drop 3).take (Try.prog.cellsOf 3)) = some y3 := hx 3 _ rfl
    have h4 : DataW.trod enc Try.prog W 0 spare held n 48 (([c0, c1, c2, c3, c4, c5, c6].drop 4).take (Try.prog.cellsOf 48)) = some y4 := hx 4 _ rfl
    simp only [Value.cells, hi, hs, ht, List.drop_zero, List.drop_succ_cons, List.take_succ_cons, List.take_zero] at h0 h1 h2 h3 h4
    obtain ⟨F, hF⟩ := open_frames h0
    obtain ⟨n1, e1, _⟩ := DataW.trod_int Try.underlying3 h1
    obtain ⟨n2, e2, _⟩ := DataW.trod_int Try.underlying3 h2
    obtain ⟨n3, e3, _⟩ := DataW.trod_int Try.underlying3 h3
    obtain ⟨z0, z1, z2, n', _, _, k0, k1, k2⟩ := trod_struct3 Try.underlying48 h4
    simp only [hi, List.drop_zero, List.drop_succ_cons, List.take_succ_cons, List.take_zero] at k0 k1 k2
    obtain ⟨n4, e4, _⟩ := DataW.trod_int Try.underlying3 k0
    obtain ⟨n5, e5, _⟩ := DataW.trod_int Try.underlying3 k1
    obtain ⟨n6, e6, _⟩ := DataW.trod_int Try.underlying3 k2
    simp at e1 e2 e3 e4 e5 e6
    subst e1 e2 e3 e4 e5 e6
    exact ⟨c0, F, n1, n2, n3, n4, n5, n6, rfl, hF⟩
end
end Go.Proofs.Ytbjegekfghihkaa
