/-
  Whether an instruction is ok, as the program says it.
-/
import Derived.Test.YtifpijindmdboaaPFitM
import Derived.Test.YtifpijindmdboaaInv3
namespace Go.Proofs.Ytifpijindmdboaa
open Go.RowKit
set_option linter.unusedVariables false
set_option linter.unusedSimpArgs false

/-- the boxes of an instruction and of its room -/
structure Rm (x : World) (m : Nat) (k a b c p q : Int) : Prop where
  lt : m + 1 < x.heap.size
  c0 : x.cell? ⟨m, 0, none⟩ = some (.int .i64 k)
  c1 : x.cell? ⟨m, 1, none⟩ = some (.int .i64 a)
  c2 : x.cell? ⟨m, 2, none⟩ = some (.int .i64 b)
  c3 : x.cell? ⟨m, 3, none⟩ = some (.int .i64 c)
  d0 : x.cell? ⟨m + 1, 0, none⟩ = some (.int .i64 p)
  d1 : x.cell? ⟨m + 1, 1, none⟩ = some (.int .i64 q)
theorem Rm.later {x y : World} {m : Nat} {k a b c p q : Int} (h : Rm x m k a b c p q) (hb : Below x.heap.size x y) : Rm y m k a b c p q := by
  obtain ⟨n, c0, c1, c2, c3, d0, d1⟩ := h
  have hn : m < x.heap.size := by omega
  exact ⟨Nat.lt_of_lt_of_le n hb.size, (hb.cell (p := ⟨m, 0, none⟩) hn).trans c0, (hb.cell (p := ⟨m, 1, none⟩) hn).trans c1, (hb.cell (p := ⟨m, 2, none⟩) hn).trans c2, (hb.cell (p := ⟨m, 3, none⟩) hn).trans c3, (hb.cell (p := ⟨m + 1, 0, none⟩) n).trans d0, (hb.cell (p := ⟨m + 1, 1, none⟩) n).trans d1⟩
theorem Rm.new (w : World) (k a b c p q : Int) : Rm ((w.alloc (.cells #[.int .i64 k, .int .i64 a, .int .i64 b, .int .i64 c] 104)).alloc (.cells #[.int .i64 p, .int .i64 q] 118)) w.heap.size k a b c p q :=
  ⟨by simp, by simp [go_sem], by simp [go_sem], by simp [go_sem], by simp [go_sem], by simp [go_sem], by simp [go_sem]⟩

theorem letters_ok (K : Int) : (∀ (j : Nat) (h : j < (lettersF K).size), ((lettersF K)[j]'h) = 65 ∨ ((lettersF K)[j]'h) = 66 ∨ ((lettersF K)[j]'h) = 67) ∧ (lettersF K).size ≤ 3 ∧ 1 ≤ (lettersF K).size := by
  have hcase : lettersF K = ⟨#[65]⟩ ∨ lettersF K = ⟨#[67]⟩ ∨ lettersF K = ⟨#[65, 66]⟩ ∨ lettersF K = ⟨#[65, 66, 67]⟩ := by
    unfold lettersF
    split
    · exact .inl rfl
    · split
      · exact .inr (.inl rfl)
      · split
        · exact .inr (.inr (.inl rfl))
        · exact .inr (.inr (.inr rfl))
  generalize lettersF K = s at hcase ⊢
  rcases hcase with rfl | rfl | rfl | rfl
  · refine ⟨fun j h => ?_, by decide, by decide⟩
    have h' : j < 1 := h
    match j, h' with
    | 0, _ => exact .inl rfl
  · refine ⟨fun j h => ?_, by decide, by decide⟩
    have h' : j < 1 := h
    match j, h' with
    | 0, _ => exact .inr (.inr rfl)
  · refine ⟨fun j h => ?_, by decide, by decide⟩
    have h' : j < 2 := h
    match j, h' with
    | 0, _ => exact .inl rfl
    | 1, _ => exact .inr (.inl rfl)
  · refine ⟨fun j h => ?_, by decide, by decide⟩
    have h' : j < 3 := h
    match j, h' with
    | 0, _ => exact .inl rfl
    | 1, _ => exact .inr (.inl rfl)
    | 2, _ => exact .inr (.inr rfl)

end Go.Proofs.Ytifpijindmdboaa
