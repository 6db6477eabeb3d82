/-
  The walk of the law FnSpanOf.
-/
import Derived.Test.YtlnfjjciilieeaaDrawS
import Derived.Test.YtlnfjjciilieeaaKeep
import Derived.Test.YtlnfjjciilieeaaHas
import Derived.Deep.RegionHeld
namespace Go.Proofs.Ytlnfjjciilieeaa
open Go.RowKit
set_option linter.unusedVariables false
set_option linter.unusedSimpArgs false

theorem row_len {w : World} {a : Option Addr} {len cap : Nat} {zs : List Int} (h : IsRow w a len cap zs) : len ≤ maxLen := by
  rcases h with ⟨rfl, rfl, rfl, rfl⟩ | ⟨x, rfl, hl, hm, hz, hcell, hwz⟩
  · exact Nat.zero_le _
  · omega
theorem of_has {n m : Int} {a : Bool} {l u : Int} (h : ofF n = (a, l, u)) : hasF a l u m = (decide (m = n) && decide (-16 ≤ m) && decide (m ≤ 15)) := by
  unfold ofF at h
  split at h
  · rename_i hw
    have hb := isW_t hw
    simp at h
    obtain ⟨rfl, rfl, rfl⟩ := h
    rw [Bool.eq_iff_iff]
    simp [hasF, okF]
    omega
  · rename_i hw
    simp only [Bool.not_eq_true] at hw
    have hb := isW_f hw
    simp [noSp] at h
    obtain ⟨rfl, rfl, rfl⟩ := h
    rw [Bool.eq_iff_iff]
    simp [hasF]
    omega
theorem of_ok {n : Int} {a : Bool} {l u : Int} (h : ofF n = (a, l, u)) : okF a l u = true := by
  unfold ofF at h
  split at h
  · rename_i hw
    have hb := isW_t hw
    simp at h
    obtain ⟨rfl, rfl, rfl⟩ := h
    exact okF_t (by omega)
  · simp [noSp] at h
    obtain ⟨rfl, rfl, rfl⟩ := h
    rfl

end Go.Proofs.Ytlnfjjciilieeaa
