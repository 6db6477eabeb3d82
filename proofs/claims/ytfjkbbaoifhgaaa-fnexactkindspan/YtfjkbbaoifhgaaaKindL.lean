/-
  The walk of the law FnExactKindSpan.
-/
import Derived.Test.YtfjkbbaoifhgaaaKind
namespace Go.Proofs.Ytfjkbbaoifhgaaa
open Go.RowKit
set_option linter.unusedVariables false
set_option linter.unusedSimpArgs false

theorem sp_same {s : Sp} {a b : Bool} {l u m v : Int} (h : s = (a, l, u)) (h' : s = (b, m, v)) : b = a ∧ m = l ∧ v = u := by
  have e := h'.symm.trans h
  simpa using e
set_option maxHeartbeats 1000000 in
theorem exactKindSpan_walk (n : Int) (w : World) (hn : (Lit.int .i64 n).wf = true) :
    Calls Try.prog 3 #[.int .i64 n] w fun e w' => e = .returned (.bool true) ∧ Below w.heap.size w w' := by
  clear hn
  go_enter Try.func3, Try.ntmps3
  go_wp2_with fail
  refine (kind_spec _ _).mono ?_
  rintro e w1 ⟨hs1, hr1⟩
  obtain ⟨a1, l1, u1, hx1, rfl⟩ := hs1.out
  clear hs1
  have hb1 : Below w.heap.size w w1 := (Below.refl _ _).trans (hr1.mono (by go_size))
  have hz1 : w.heap.size + 0 ≤ w1.heap.size := by have := hr1.size; first | omega | (simp at this; omega)
  have hB1 : Below w.heap.size w w1 := hb1
  clear hr1 hb1
  go_wp2_with fail
  refine (kind_impl _ _).mono ?_
  rintro e w2 ⟨hs2, hr2⟩
  obtain ⟨a2, l2, u2, hx2, rfl⟩ := hs2.out
  clear hs2
  have hb2 : Below w1.heap.size w1 w2 := ((Below.refl _ _).alloc (by go_size) _).trans (hr2.mono (by go_size))
  have hz2 : w1.heap.size + 1 ≤ w2.heap.size := by have := hr2.size; first | omega | (simp at this; omega)
  have hB2 : Below w.heap.size w w2 := hB1.trans (hb2.mono (by go_size))
  have c2x0o0 : w2.cell? ⟨w1.heap.size, 0, none⟩ = some (.bool a1) := (hr2.cell (p := ⟨w1.heap.size, 0, none⟩) (by go_size)).trans (by simp [go_sem])
  have c2x0o1 : w2.cell? ⟨w1.heap.size, 1, none⟩ = some (.int .i64 l1) := (hr2.cell (p := ⟨w1.heap.size, 1, none⟩) (by go_size)).trans (by simp [go_sem])
  have c2x0o2 : w2.cell? ⟨w1.heap.size, 2, none⟩ = some (.int .i64 u1) := (hr2.cell (p := ⟨w1.heap.size, 2, none⟩) (by go_size)).trans (by simp [go_sem])
  have n2x0 : w1.heap.size < w2.heap.size := by omega
  clear hr2 hb2
  obtain ⟨rfl, rfl, rfl⟩ := sp_same hx1 hx2
  go_wp2_with fail
  refine (eqSpan_same _ _ _ _).mono ?_
  rintro e w3 ⟨rfl, hr3⟩
  have hb3 : Below w2.heap.size w2 w3 := ((Below.refl _ _).alloc (by go_size) _).trans (hr3.mono (by go_size))
  have hz3 : w2.heap.size + 1 ≤ w3.heap.size := by have := hr3.size; first | omega | (simp at this; omega)
  have hB3 : Below w.heap.size w w3 := hB2.trans (hb3.mono (by go_size))
  have c3x0o0 : w3.cell? ⟨w1.heap.size, 0, none⟩ = some (.bool a2) := (hb3.cell (p := ⟨w1.heap.size, 0, none⟩) (by go_size)).trans c2x0o0
  have c3x0o1 : w3.cell? ⟨w1.heap.size, 1, none⟩ = some (.int .i64 l2) := (hb3.cell (p := ⟨w1.heap.size, 1, none⟩) (by go_size)).trans c2x0o1
  have c3x0o2 : w3.cell? ⟨w1.heap.size, 2, none⟩ = some (.int .i64 u2) := (hb3.cell (p := ⟨w1.heap.size, 2, none⟩) (by go_size)).trans c2x0o2
  have c3x1o0 : w3.cell? ⟨w2.heap.size, 0, none⟩ = some (.bool a2) := (hr3.cell (p := ⟨w2.heap.size, 0, none⟩) (by go_size)).trans (by simp [go_sem])
  have c3x1o1 : w3.cell? ⟨w2.heap.size, 1, none⟩ = some (.int .i64 l2) := (hr3.cell (p := ⟨w2.heap.size, 1, none⟩) (by go_size)).trans (by simp [go_sem])
  have c3x1o2 : w3.cell? ⟨w2.heap.size, 2, none⟩ = some (.int .i64 u2) := (hr3.cell (p := ⟨w2.heap.size, 2, none⟩) (by go_size)).trans (by simp [go_sem])
  have n3x0 : w1.heap.size < w3.heap.size := by omega
  have n3x1 : w2.heap.size < w3.heap.size := by omega
  clear n2x0 c2x0o0 c2x0o1 c2x0o2
  clear hr3 hb3
  go_wp2
  go_ret
  exact ⟨rfl, by assumption⟩

end Go.Proofs.Ytfjkbbaoifhgaaa
