import Derived.Test.YtdomalclpjijaaaB8
import Derived.Test.YtdomalclpjijaaaB20
import Derived.Test.YtdomalclpjijaaaB19
/-
  Plain facts on widened spans: no claim by itself.
-/
namespace Go.Proofs.Ytdomalclpjijaaa
set_option linter.unusedVariables false
set_option linter.unusedSimpArgs false

theorem wide_all {a b c : Bool} {al ah bl bh cl ch : Int} (h1 : okF a al ah = true) (h2 : okF b bl bh = true) (h : wideF a al ah b bl bh = (c, cl, ch)) :
    okF c cl ch = true ∧ (∀ (d : Bool) (dl dh : Int), joinF a al ah b bl bh = (d, dl, dh) → inF d dl dh c cl ch = true) ∧ (inF b bl bh a al ah = decide (c = a ∧ cl = al ∧ ch = ah)) := by
  cases a
  · obtain ⟨rfl, rfl⟩ := okF_no h1
    have hw : wideF false 0 0 b bl bh = joinF false 0 0 b bl bh := by simp [wideF, bothF]
    rw [hw] at h
    have hall := join_all h1 h2 h
    refine ⟨hall.1, fun d dl dh hd => ?_, ?_⟩
    · rw [h] at hd
      simp at hd
      obtain ⟨rfl, rfl, rfl⟩ := hd
      simp [inF, hall.1]
    · cases b
      · obtain ⟨rfl, rfl⟩ := okF_no h2
        simp [joinF, h1] at h
        obtain ⟨rfl, rfl, rfl⟩ := h
        simp [inF, h1]
      · simp [joinF, h1, h2] at h
        obtain ⟨rfl, rfl, rfl⟩ := h
        simp [inF, h1, h2]
  · have e1 := okF_bd h1
    cases b
    · obtain ⟨rfl, rfl⟩ := okF_no h2
      have hw : wideF true al ah false 0 0 = joinF true al ah false 0 0 := by simp [wideF, bothF]
      rw [hw] at h
      have hall := join_all h1 h2 h
      refine ⟨hall.1, fun d dl dh hd => ?_, ?_⟩
      · rw [h] at hd
        simp at hd
        obtain ⟨rfl, rfl, rfl⟩ := hd
        simp [inF, hall.1]
      · simp [joinF, h1, h2] at h
        obtain ⟨rfl, rfl, rfl⟩ := h
        simp [inF, h1, h2]
    · have e2 := okF_bd h2
      have hb : bothF true al ah true bl bh = true := by simp [bothF, h1, h2]
      simp only [wideF, hb, if_true, Prod.mk.injEq] at h
      obtain ⟨rfl, hl, hu⟩ := h
      have k1 : -16 ≤ cl ∧ cl ≤ min al bl ∧ (cl = al ↔ al ≤ bl) := by
        rw [← hl]; unfold downF; repeat' split
        all_goals omega
      have k2 : ch ≤ 15 ∧ max ah bh ≤ ch ∧ (ch = ah ↔ bh ≤ ah) := by
        rw [← hu]; unfold upF; repeat' split
        all_goals omega
      have ho : okF true cl ch = true := okF_t (by omega)
      refine ⟨ho, fun d dl dh hd => ?_, ?_⟩
      · simp [joinF, h1, h2] at hd
        obtain ⟨rfl, rfl, rfl⟩ := hd
        have h3 : okF true (min al bl) (max ah bh) = true := okF_t (by omega)
        simp [inF, h3, ho]
        omega
      · rw [Bool.eq_iff_iff]
        simp [inF, h1, h2]
        omega
end Go.Proofs.Ytdomalclpjijaaa

/-
  Plain mathematics of widening: each change takes a step of at most seven; calls of SpanWide, SpanOf and NumWrap whose answer has a name.
-/
namespace Go.Proofs.Ytdomalclpjijaaa
open Go.RowKit
set_option linter.unusedVariables false
set_option linter.unusedSimpArgs false

def potL (l : Int) : Int := if 0 < l then 3 else if -4 < l then 2 else if -16 < l then 1 else 0
def potH (u : Int) : Int := if u < 0 then 3 else if u < 4 then 2 else if u < 15 then 1 else 0
def pot (a : Bool) (l u : Int) : Int := if a = true then potL l + potH u else 7
theorem potL_bd (l : Int) : 0 ≤ potL l ∧ potL l ≤ 3 := by unfold potL; repeat' split
                                                          all_goals omega
theorem potH_bd (l : Int) : 0 ≤ potH l ∧ potH l ≤ 3 := by unfold potH; repeat' split
                                                          all_goals omega
theorem pot_bd (a : Bool) (l u : Int) : 0 ≤ pot a l u ∧ pot a l u ≤ 7 := by
  have h1 := potL_bd l; have h2 := potH_bd u
  unfold pot; split <;> omega
theorem potL_down {l m : Int} (h : m < l) (hm : -16 ≤ m) : potL (downF m) + 1 ≤ potL l := by
  unfold potL downF
  by_cases h0 : 0 ≤ m
  · simp [h0]; repeat' split
    all_goals omega
  · by_cases h1 : -4 ≤ m
    · simp [h0, h1]; repeat' split
      all_goals omega
    · simp [h0, h1]; repeat' split
      all_goals omega
theorem potH_up {u m : Int} (h : u < m) (hm : m ≤ 15) : potH (upF m) + 1 ≤ potH u := by
  unfold potH upF
  by_cases h0 : m ≤ 0
  · simp [h0]; repeat' split
    all_goals omega
  · by_cases h1 : m ≤ 4
    · simp [h0, h1]; repeat' split
      all_goals omega
    · simp [h0, h1]; repeat' split
      all_goals omega

theorem wide_pot {a c : Bool} {al ah bl bh cl ch : Int} (h1 : okF a al ah = true) (h2 : okF true bl bh = true) (h : wideF a al ah true bl bh = (c, cl, ch)) :
    okF c cl ch = true ∧ c = true ∧ ((a = true ∧ cl = al ∧ ch = ah) ∨ pot c cl ch + 1 ≤ pot a al ah) := by
  have hok := (wide_all h1 h2 h).1
  cases a
  · obtain ⟨rfl, rfl⟩ := okF_no h1
    simp [wideF, bothF, joinF, h1, h2] at h
    obtain ⟨rfl, rfl, rfl⟩ := h
    have p1 := potL_bd bl; have p2 := potH_bd bh
    refine ⟨hok, rfl, .inr ?_⟩
    simp [pot]; omega
  · have e1 := okF_bd h1
    have e2 := okF_bd h2
    simp [wideF, bothF, h1, h2] at h
    obtain ⟨rfl, hl, hh⟩ := h
    refine ⟨hok, rfl, ?_⟩
    by_cases k1 : bl < al
    · have m1 : min al bl = bl := by omega
      rw [if_pos (by omega), m1] at hl
      have q1 := potL_down k1 (by omega)
      by_cases k2 : ah < bh
      · have m2 : max ah bh = bh := by omega
        rw [if_pos (by omega), m2] at hh
        have q2 := potH_up k2 (by omega)
        right; subst hl hh; simp [pot]; omega
      · rw [if_neg (by omega)] at hh
        have : ch = ah := by omega
        right; subst hl this; simp [pot]; omega
    · rw [if_neg (by omega)] at hl
      have e3 : cl = al := by omega
      by_cases k2 : ah < bh
      · have m2 : max ah bh = bh := by omega
        rw [if_pos (by omega), m2] at hh
        have q2 := potH_up k2 (by omega)
        right; subst hh e3; simp [pot]; omega
      · rw [if_neg (by omega)] at hh
        left; exact ⟨rfl, e3, by omega⟩

theorem wide_at {a b p : Bool} {al ah bl bh pl ph : Int} (h : wideF a al ah b bl bh = (p, pl, ph)) (w : World) : Calls Try.prog 40 #[.agg #[.bool a, .int .i64 al, .int .i64 ah], .agg #[.bool b, .int .i64 bl, .int .i64 bh]] w fun e w' => e = .returned (.agg #[.bool p, .int .i64 pl, .int .i64 ph]) ∧ Below w.heap.size w w' :=
  (wide_impl a al ah b bl bh w).mono fun e w' ⟨h1, h2⟩ => ⟨by rw [h] at h1; exact h1, h2⟩
theorem wideT_at {a b p : Bool} {al ah bl bh pl ph : Int} (h : wideF a al ah b bl bh = (p, pl, ph)) (w : World) : Calls Try.prog 67 #[.agg #[.bool a, .int .i64 al, .int .i64 ah], .agg #[.bool b, .int .i64 bl, .int .i64 bh]] w fun e w' => e = .returned (.agg #[.bool p, .int .i64 pl, .int .i64 ph]) ∧ Below w.heap.size w w' :=
  (wide_spec a al ah b bl bh w).mono fun e w' ⟨h1, h2⟩ => ⟨by rw [h] at h1; exact h1, h2⟩
theorem wrap_word (n : Int) : isW (wrapF n) = true := by have := wrapF_bd n; simp [isW]; omega
theorem ok_word {n : Int} (h : isW n = true) : okF true n n = true := by simp [isW] at h; simp [okF]; omega
end Go.Proofs.Ytdomalclpjijaaa
