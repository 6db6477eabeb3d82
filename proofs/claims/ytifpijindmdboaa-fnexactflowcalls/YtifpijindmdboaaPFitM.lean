/-
  That an instruction fits and has no needless numbers is that it is ok.
-/
import Derived.Test.YtifpijindmdboaaPRest
import Derived.Test.YtifpijindmdboaaPLet
import Derived.Test.YtifpijindmdboaaPIns
namespace Go.Proofs.Ytifpijindmdboaa
open Go.RowKit
set_option linter.unusedVariables false
set_option linter.unusedSimpArgs false

/-- whether an instruction fits into a room -/
def fitsF (i : I4) (p q : Int) : Bool :=
  let a := inI i.2.1 0 2
  let b := inI i.2.2.1 0 2
  let c := inI i.2.2.2 0 2
  if i.1 = 1 then a && inI i.2.2.1 (-16) 15
  else if i.1 = 3 then a && inI i.2.2.1 (-16) 15 && decide (0 ≤ i.2.2.1)
  else if i.1 = 2 ∨ i.1 = 11 ∨ i.1 = 12 then (a && b)
  else if i.1 = 4 then (a && b) && inI i.2.2.2 1 6
  else if i.1 = 5 then inI i.2.2.2 0 q
  else if i.1 = 6 ∨ i.1 = 7 then (a && b) && inI i.2.2.2 0 q
  else if i.1 = 8 then (a && c) && inI i.2.2.1 0 (p - 1)
  else a

theorem rest_A (a b c : Int) : restF ⟨#[65]⟩ a b c = (decide (b = 0) && decide (c = 0)) := by
  have h : (⟨#[65]⟩ : ByteArray).size = 1 := rfl
  unfold restF; rw [h, Bool.eq_iff_iff]
  simp [zF]
theorem rest_C (a b c : Int) : restF ⟨#[67]⟩ a b c = (decide (a = 0) && decide (b = 0)) := by
  have h : (⟨#[67]⟩ : ByteArray).size = 1 := rfl
  unfold restF; rw [h, Bool.eq_iff_iff]
  simp [zF]
theorem rest_AB (a b c : Int) : restF ⟨#[65, 66]⟩ a b c = decide (c = 0) := by
  have h : (⟨#[65, 66]⟩ : ByteArray).size = 2 := rfl
  unfold restF; rw [h, Bool.eq_iff_iff]
  simp [zF]
theorem rest_ABC (a b c : Int) : restF ⟨#[65, 66, 67]⟩ a b c = true := by
  have h : (⟨#[65, 66, 67]⟩ : ByteArray).size = 3 := rfl
  unfold restF; rw [h]
  simp [zF]

theorem fits_ok (i : I4) (p q : Int) (h1 : 1 ≤ i.1) (h2 : i.1 ≤ 12) : (fitsF i p q && restF (lettersF i.1) i.2.1 i.2.2.1 i.2.2.2) = insOkF i q p := by
  obtain ⟨K, a, b, c⟩ := i
  simp only at h1 h2
  obtain rfl | rfl | rfl | rfl | rfl | rfl | rfl | rfl | rfl | rfl | rfl | rfl : K = 1 ∨ K = 2 ∨ K = 3 ∨ K = 4 ∨ K = 5 ∨ K = 6 ∨ K = 7 ∨ K = 8 ∨ K = 9 ∨ K = 10 ∨ K = 11 ∨ K = 12 := by omega
  all_goals
    rw [Bool.eq_iff_iff]
    simp [fitsF, insOkF, lettersF, rest_A, rest_C, rest_AB, rest_ABC, inI]
    try omega
end Go.Proofs.Ytifpijindmdboaa
