/-
  Plain facts on joins of spans: no claim by itself.
-/
import Derived.Test.YtbmjjmbimfdkoaaJoin
namespace Go.Proofs.Ytbmjjmbimfdkoaa
set_option linter.unusedVariables false
set_option linter.unusedSimpArgs false

theorem join_all {a b c : Bool} {al ah bl bh cl ch : Int} (h1 : okF a al ah = true) (h2 : okF b bl bh = true) (h : joinF a al ah b bl bh = (c, cl, ch)) :
    okF c cl ch = true ∧ inF a al ah c cl ch = true ∧ inF b bl bh c cl ch = true ∧ joinF b bl bh a al ah = (c, cl, ch) ∧ joinF c cl ch a al ah = (c, cl, ch) := by
  cases a
  · obtain ⟨rfl, rfl⟩ := okF_no h1
    cases b
    · obtain ⟨rfl, rfl⟩ := okF_no h2
      simp [joinF, h1] at h
      obtain ⟨rfl, rfl, rfl⟩ := h
      simp [joinF, inF, h1]
    · simp [joinF, h1, h2] at h
      obtain ⟨rfl, rfl, rfl⟩ := h
      simp [joinF, inF, h1, h2]
  · have e1 := okF_bd h1
    cases b
    · obtain ⟨rfl, rfl⟩ := okF_no h2
      simp [joinF, h1, h2] at h
      obtain ⟨rfl, rfl, rfl⟩ := h
      simp [joinF, inF, h1, h2]
    · have e2 := okF_bd h2
      simp [joinF, h1, h2] at h
      obtain ⟨rfl, rfl, rfl⟩ := h
      have h3 : okF true (min al bl) (max ah bh) = true := okF_t (by omega)
      simp [joinF, inF, h1, h2, h3]
      omega
theorem join_least {a b c d : Bool} {al ah bl bh cl ch dl dh : Int} (h1 : okF a al ah = true) (h2 : okF b bl bh = true) (h : joinF a al ah b bl bh = (c, cl, ch)) (hd1 : inF a al ah d dl dh = true) (hd2 : inF b bl bh d dl dh = true) : inF c cl ch d dl dh = true := by
  have hok := (join_all h1 h2 h).1
  have hd : okF d dl dh = true := by
    simp only [inF, Bool.and_eq_true] at hd1
    exact hd1.1.2
  simp only [inF, h1, h2, hd, hok, Bool.true_and] at hd1 hd2 ⊢
  cases a
  · obtain ⟨rfl, rfl⟩ := okF_no h1
    simp [joinF, h1, h2] at h
    obtain ⟨rfl, rfl, rfl⟩ := h
    exact hd2
  · cases b
    · obtain ⟨rfl, rfl⟩ := okF_no h2
      simp [joinF, h1, h2] at h
      obtain ⟨rfl, rfl, rfl⟩ := h
      exact hd1
    · simp [joinF, h1, h2] at h
      obtain ⟨rfl, rfl, rfl⟩ := h
      simp at hd1 hd2 ⊢
      refine ⟨hd1.1, ?_⟩
      omega
end Go.Proofs.Ytbmjjmbimfdkoaa
