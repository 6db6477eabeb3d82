/-
  Plain mathematics of the law FnSpanWhen.
-/
import Derived.Test.YtlnfjjciilieeaaDoN
namespace Go.Proofs.Ytlnfjjciilieeaa
open Go.RowKit
set_option linter.unusedVariables false
set_option linter.unusedSimpArgs false

theorem raw_01 {op p q : Int} (ho : op = 5 ∨ op = 6) : rawF op p q = 0 ∨ rawF op p q = 1 := by
  rcases ho with rfl | rfl
  · by_cases h : p < q <;> simp [rawF, h]
  · by_cases h : p = q <;> simp [rawF, h]
theorem when_give {op p q : Int} (ho : op = 5 ∨ op = 6) (hp : -16 ≤ p ∧ p ≤ 15) (hq : -16 ≤ q ∧ q ≤ 15) : doF op p q = rawF op p q ∧ doOk op p q = true := by
  have h1 : doOk op p q = true := by simp [doOk, canF, isW]; omega
  refine ⟨?_, h1⟩
  unfold doF
  rw [if_pos h1, wrapF_id]
  rcases raw_01 (p := p) (q := q) ho with h | h <;> rw [h] <;> rfl

theorem when_fst {op : Int} {a : Bool} {al ah : Int} {b : Bool} {bl bh : Int} {yes : Bool} {x y s : Sp} (ho : op = 5 ∨ op = 6) (h : WhenIs op a al ah b bl bh yes x y) (oa : okF a al ah = true) (ob : okF b bl bh = true)
    (hs : Hull (SeenD (fun p q => doF op p q = oneF yes) (fun p _ => p) a al ah b bl bh 16 (-16)) s) : x = s := by
  cases hbo : bothF a al ah b bl bh
  · rw [(h.out (.inl hbo)).1]
    refine (Hull.uniq hs (Hull.empty ?_)).symm
    rintro r ⟨p, q, h1, h2, _⟩
    obtain ⟨rfl, _⟩ := has_iff.1 h1
    obtain ⟨rfl, _⟩ := has_iff.1 h2
    simp [bothF, oa, ob] at hbo
  · obtain ⟨rfl, rfl, k1, k2, k3, k4, k5, k6⟩ := both_all hbo
    refine Hull.uniq (h.here hbo ho).1 (hs.congr fun r => ?_)
    constructor
    · rintro ⟨p, q, h1, h2, _, h4, rfl⟩
      obtain ⟨_, _, p1, p2⟩ := has_iff.1 h1
      obtain ⟨_, _, q1, q2⟩ := has_iff.1 h2
      rw [(when_give ho (by omega) (by omega)).1] at h4
      exact ⟨q, p1, p2, q1, q2, h4⟩
    · rintro ⟨q, p1, p2, q1, q2, h4⟩
      refine ⟨r, q, has_iff.2 ⟨rfl, oa, p1, p2⟩, has_iff.2 ⟨rfl, ob, q1, q2⟩, by omega, ?_, rfl⟩
      show doF op r q = oneF yes
      rw [(when_give ho (by omega) (by omega)).1]; exact h4
theorem when_snd {op : Int} {a : Bool} {al ah : Int} {b : Bool} {bl bh : Int} {yes : Bool} {x y s : Sp} (ho : op = 5 ∨ op = 6) (h : WhenIs op a al ah b bl bh yes x y) (oa : okF a al ah = true) (ob : okF b bl bh = true)
    (hs : Hull (SeenD (fun p q => doF op p q = oneF yes) (fun _ q => q) a al ah b bl bh 16 (-16)) s) : y = s := by
  cases hbo : bothF a al ah b bl bh
  · rw [(h.out (.inl hbo)).2]
    refine (Hull.uniq hs (Hull.empty ?_)).symm
    rintro r ⟨p, q, h1, h2, _⟩
    obtain ⟨rfl, _⟩ := has_iff.1 h1
    obtain ⟨rfl, _⟩ := has_iff.1 h2
    simp [bothF, oa, ob] at hbo
  · obtain ⟨rfl, rfl, k1, k2, k3, k4, k5, k6⟩ := both_all hbo
    refine Hull.uniq (h.here hbo ho).2 (hs.congr fun r => ?_)
    constructor
    · rintro ⟨p, q, h1, h2, _, h4, rfl⟩
      obtain ⟨_, _, p1, p2⟩ := has_iff.1 h1
      obtain ⟨_, _, q1, q2⟩ := has_iff.1 h2
      rw [(when_give ho (by omega) (by omega)).1] at h4
      exact ⟨p, p1, p2, q1, q2, h4⟩
    · rintro ⟨p, p1, p2, q1, q2, h4⟩
      refine ⟨p, r, has_iff.2 ⟨rfl, oa, p1, p2⟩, has_iff.2 ⟨rfl, ob, q1, q2⟩, by omega, ?_, rfl⟩
      show doF op p r = oneF yes
      rw [(when_give ho (by omega) (by omega)).1]; exact h4
end Go.Proofs.Ytlnfjjciilieeaa
