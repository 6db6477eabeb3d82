/-
  Plain facts on widened spans: no claim by itself.
-/
import Derived.Test.YtbmjjmbimfdkoaaJoinM
import Derived.Test.YtbmjjmbimfdkoaaWide
namespace Go.Proofs.Ytbmjjmbimfdkoaa
set_option linter.unusedVariables false
set_option linter.unusedSimpArgs false

theorem wide_all {a b c : Bool} {al ah bl bh cl ch : Int} (h1 : okF a al ah = true) (h2 : okF b bl bh = true) (h : wideF a al ah b bl bh = (c, cl, ch)) :
    okF c cl ch = true ∧ (∀ (d : Bool) (dl dh : Int), joinF a al ah b bl bh = (d, dl, dh) → inF d dl dh c cl ch = true) ∧ (inF b bl bh a al ah = decide (c = a ∧ cl = al ∧ ch = ah)) := by
  cases a
  · obtain ⟨rfl, rfl⟩ := okF_no h1
    have hw : wideF false 0 0 b bl bh = joinF false 0 0 b bl bh := by simp [wideF, bothF]
    rw [hw] at h
    have hall := join_all h1 h2 h
    refine ⟨hall.1, fun d dl dh hd => ?_, ?_⟩
    · rw [h] at hd
      simp at hd
      obtain ⟨rfl, rfl, rfl⟩ := hd
      simp [inF, hall.1]
    · cases b
      · obtain ⟨rfl, rfl⟩ := okF_no h2
        simp [joinF, h1] at h
        obtain ⟨rfl, rfl, rfl⟩ := h
        simp [inF, h1]
      · simp [joinF, h1, h2] at h
        obtain ⟨rfl, rfl, rfl⟩ := h
        simp [inF, h1, h2]
  · have e1 := okF_bd h1
    cases b
    · obtain ⟨rfl, rfl⟩ := okF_no h2
      have hw : wideF true al ah false 0 0 = joinF true al ah false 0 0 := by simp [wideF, bothF]
      rw [hw] at h
      have hall := join_all h1 h2 h
      refine ⟨hall.1, fun d dl dh hd => ?_, ?_⟩
      · rw [h] at hd
        simp at hd
        obtain ⟨rfl, rfl, rfl⟩ := hd
        simp [inF, hall.1]
      · simp [joinF, h1, h2] at h
        obtain ⟨rfl, rfl, rfl⟩ := h
        simp [inF, h1, h2]
    · have e2 := okF_bd h2
      have hb : bothF true al ah true bl bh = true := by simp [bothF, h1, h2]
      simp only [wideF, hb, if_true, Prod.mk.injEq] at h
      obtain ⟨rfl, hl, hu⟩ := h
      have k1 : -16 ≤ cl ∧ cl ≤ min al bl ∧ (cl = al ↔ al ≤ bl) := by
        rw [← hl]; unfold downF; repeat' split
        all_goals omega
      have k2 : ch ≤ 15 ∧ max ah bh ≤ ch ∧ (ch = ah ↔ bh ≤ ah) := by
        rw [← hu]; unfold upF; repeat' split
        all_goals omega
      have ho : okF true cl ch = true := okF_t (by omega)
      refine ⟨ho, fun d dl dh hd => ?_, ?_⟩
      · simp [joinF, h1, h2] at hd
        obtain ⟨rfl, rfl, rfl⟩ := hd
        have h3 : okF true (min al bl) (max ah bh) = true := okF_t (by omega)
        simp [inF, h3, ho]
        omega
      · rw [Bool.eq_iff_iff]
        simp [inF, h1, h2]
        omega
end Go.Proofs.Ytbmjjmbimfdkoaa
