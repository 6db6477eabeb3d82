/-
  Plain mathematics of the laws FnSpanDo and FnSpanWhen: what pairs in order give; calls whose answer has a name.
-/
import Derived.Test.YtlnfjjciilieeaaFix
namespace Go.Proofs.Ytlnfjjciilieeaa
open Go.RowKit
set_option linter.unusedVariables false
set_option linter.unusedSimpArgs false

theorem has_iff {a : Bool} {l u n : Int} : hasF a l u n = true ↔ a = true ∧ okF a l u = true ∧ l ≤ n ∧ n ≤ u := by
  simp only [hasF, Bool.and_eq_true, decide_eq_true_eq]
  constructor
  · rintro ⟨⟨h1, h2⟩, h3, h4⟩; exact ⟨h1, h2, h3, h4⟩
  · rintro ⟨h1, h2, h3, h4⟩; exact ⟨⟨h1, h2⟩, h3, h4⟩
theorem has_bd {a : Bool} {l u n : Int} (h : hasF a l u n = true) : -16 ≤ n ∧ n ≤ 15 := by
  obtain ⟨rfl, h2, h3, h4⟩ := has_iff.1 h
  simp [okF] at h2
  omega
/-- all that pairs of words ahead of n and m give -/
def SeenD (G : Int → Int → Prop) (F : Int → Int → Int) (a : Bool) (al ah : Int) (b : Bool) (bl bh : Int) (n m y : Int) : Prop :=
  ∃ p q, hasF a al ah p = true ∧ hasF b bl bh q = true ∧ (p < n ∨ p = n ∧ q < m) ∧ G p q ∧ y = F p q
theorem seenD_zero {G : Int → Int → Prop} {F : Int → Int → Int} {a : Bool} {al ah : Int} {b : Bool} {bl bh : Int} (y : Int) : ¬ SeenD G F a al ah b bl bh (-16) (-16) y := by
  rintro ⟨p, q, h1, h2, h3, _⟩
  have := has_bd h1; have := has_bd h2; omega
theorem seenD_no {G : Int → Int → Prop} {F : Int → Int → Int} {a : Bool} {al ah : Int} {b : Bool} {bl bh n m : Int} (h : ¬ (hasF a al ah n = true ∧ hasF b bl bh m = true ∧ G n m)) (y : Int) : SeenD G F a al ah b bl bh n m y ↔ SeenD G F a al ah b bl bh n (m + 1) y := by
  constructor
  · rintro ⟨p, q, h1, h2, h3, h4, h5⟩; exact ⟨p, q, h1, h2, by omega, h4, h5⟩
  · rintro ⟨p, q, h1, h2, h3, h4, h5⟩
    by_cases e : p = n ∧ q = m
    · rw [e.1] at h1 h4; rw [e.2] at h2 h4; exact absurd ⟨h1, h2, h4⟩ h
    · exact ⟨p, q, h1, h2, by omega, h4, h5⟩
theorem seenD_yes {G : Int → Int → Prop} {F : Int → Int → Int} {a : Bool} {al ah : Int} {b : Bool} {bl bh n m : Int} (h1 : hasF a al ah n = true) (h2 : hasF b bl bh m = true) (h3 : G n m) (y : Int) : (SeenD G F a al ah b bl bh n m y ∨ y = F n m) ↔ SeenD G F a al ah b bl bh n (m + 1) y := by
  constructor
  · rintro (⟨p, q, k1, k2, k3, k4, k5⟩ | rfl)
    · exact ⟨p, q, k1, k2, by omega, k4, k5⟩
    · exact ⟨n, m, h1, h2, by omega, h3, rfl⟩
  · rintro ⟨p, q, k1, k2, k3, k4, k5⟩
    by_cases e : p = n ∧ q = m
    · right; rw [k5, e.1, e.2]
    · left; exact ⟨p, q, k1, k2, by omega, k4, k5⟩
theorem seenD_row {G : Int → Int → Prop} {F : Int → Int → Int} {a : Bool} {al ah : Int} {b : Bool} {bl bh n m : Int} (hm : 15 < m) (y : Int) : SeenD G F a al ah b bl bh n m y ↔ SeenD G F a al ah b bl bh (n + 1) (-16) y := by
  constructor
  · rintro ⟨p, q, h1, h2, h3, h4, h5⟩; exact ⟨p, q, h1, h2, by omega, h4, h5⟩
  · rintro ⟨p, q, h1, h2, h3, h4, h5⟩
    have := has_bd h2
    exact ⟨p, q, h1, h2, by omega, h4, h5⟩

theorem hull_okF {T : Int → Prop} {s : Sp} (h : Hull T s) (hT : ∀ n, T n → -16 ≤ n ∧ n ≤ 15) : okF s.1 s.2.1 s.2.2 = true := by
  cases e : s.1
  · rw [h.non e]; rfl
  · have h1 := hT _ (h.lo e); have h2 := hT _ (h.hi e); have h3 := h.all _ (h.lo e)
    simp [okF]; omega
theorem join_add {h : Bool} {hl hh y : Int} (k : okF h hl hh = true) (hy : isW y = true) : joinF h hl hh true y y = addS (h, hl, hh) y := by
  have k2 : okF true y y = true := by simp [isW] at hy; simp [okF]; omega
  cases h
  · simp [joinF, k, k2, addS]
  · simp [joinF, k, k2, addS]
theorem wrapF_id {n : Int} (h : isW n = true) : wrapF n = n := by
  simp [isW] at h
  unfold wrapF
  by_cases k : 0 ≤ n
  · have : n.tmod 32 = n := Int.tmod_eq_of_lt k (by omega)
    rw [this, if_neg (by omega), if_neg (by omega)]
  · have e : n.tmod 32 = n := by
      have h1 : (-n).tmod 32 = -n := Int.tmod_eq_of_lt (by omega) (by omega)
      rw [Int.neg_tmod] at h1; omega
    rw [e, if_neg (by omega), if_neg (by omega)]
theorem do_word (op a b : Int) : isW (doF op a b) = true := by
  unfold doF; split
  · have := wrapF_bd (rawF op a b); simp [isW]; omega
  · rfl

theorem do_in {op : Int} {a : Bool} {al ah : Int} {b : Bool} {bl bh n m : Int} {x1 : Bool} {x2 x3 : Int} (hx : DoIs op a al ah b bl bh (x1, x2, x3)) (h1 : hasF a al ah n = true) (h2 : hasF b bl bh m = true) (h3 : doOk op n m = true) : hasF x1 x2 x3 (doF op n m) = true := by
  obtain ⟨rfl, oa, n1, n2⟩ := has_iff.1 h1
  obtain ⟨rfl, ob, m1, m2⟩ := has_iff.1 h2
  have hbo : bothF true al ah true bl bh = true := by simp [bothF, oa, ob]
  have hc : canF op m = true := by simp only [doOk, Bool.and_eq_true] at h3; exact h3.2
  have hbx : BoxT op al ah bl bh (rawF op n m) := ⟨n, m, n1, n2, m1, m2, hc, rfl⟩
  have hok : okF x1 x2 x3 = true := do_ok hx
  by_cases e : ∀ r, BoxT op al ah bl bh r → isW r = true
  · have hh := hx.near hbo e
    have hw := e _ hbx
    have ha := hh.all _ hbx
    have : doF op n m = rawF op n m := by unfold doF; rw [if_pos h3, wrapF_id hw]
    rw [this]
    exact has_iff.2 ⟨ha.1, hok, ha.2.1, ha.2.2⟩
  · have : ∃ r, BoxT op al ah bl bh r ∧ isW r = false := by
      refine Classical.byContradiction fun hne => e fun r hr => ?_
      cases hw : isW r
      · exact absurd ⟨r, hr, hw⟩ hne
      · rfl
    obtain ⟨r, hr, hw⟩ := this
    have hf := hx.far hbo r hr hw
    simp only [Prod.mk.injEq] at hf
    obtain ⟨rfl, rfl, rfl⟩ := hf
    have := isW_iff.1 (do_word op n m)
    exact has_iff.2 ⟨rfl, hok, this.1, this.2⟩

theorem do_end {op : Int} {a : Bool} {al ah : Int} {b : Bool} {bl bh : Int} {x s : Sp} (hx : DoIs op a al ah b bl bh x) (oa : okF a al ah = true) (ob : okF b bl bh = true)
    (hs : Hull (SeenD (fun p q => doOk op p q = true) (doF op) a al ah b bl bh 16 (-16)) s) : x = s ∨ x = (true, -16, 15) := by
  cases hbo : bothF a al ah b bl bh
  · left
    rw [hx.out hbo]
    refine (Hull.uniq hs (Hull.empty ?_)).symm
    rintro y ⟨p, q, h1, h2, _⟩
    obtain ⟨rfl, _⟩ := has_iff.1 h1
    obtain ⟨rfl, _⟩ := has_iff.1 h2
    simp [bothF, oa, ob] at hbo
  · obtain ⟨rfl, rfl, k1, k2, k3, k4, k5, k6⟩ := both_all hbo
    by_cases e : ∀ r, BoxT op al ah bl bh r → isW r = true
    · left
      refine Hull.uniq (hx.near hbo e) (hs.congr fun y => ?_)
      constructor
      · rintro ⟨p, q, h1, h2, h3, h4, h5⟩
        obtain ⟨_, _, p1, p2⟩ := has_iff.1 h1
        obtain ⟨_, _, q1, q2⟩ := has_iff.1 h2
        have hc : canF op q = true := by simp only [doOk, Bool.and_eq_true] at h4; exact h4.2
        have hb : BoxT op al ah bl bh (rawF op p q) := ⟨p, q, p1, p2, q1, q2, hc, rfl⟩
        have : doF op p q = rawF op p q := by unfold doF; rw [if_pos h4, wrapF_id (e _ hb)]
        rw [h5, this]; exact hb
      · rintro ⟨p, q, p1, p2, q1, q2, hc, rfl⟩
        have h4 : doOk op p q = true := by simp [doOk, hc, isW]; omega
        have hb : BoxT op al ah bl bh (rawF op p q) := ⟨p, q, p1, p2, q1, q2, hc, rfl⟩
        refine ⟨p, q, has_iff.2 ⟨rfl, oa, p1, p2⟩, has_iff.2 ⟨rfl, ob, q1, q2⟩, by omega, h4, ?_⟩
        unfold doF; rw [if_pos h4, wrapF_id (e _ hb)]
    · right
      have : ∃ r, BoxT op al ah bl bh r ∧ isW r = false := by
        refine Classical.byContradiction fun hne => e fun r hr => ?_
        cases hw : isW r
        · exact absurd ⟨r, hr, hw⟩ hne
        · rfl
      obtain ⟨r, hr, hw⟩ := this
      exact hx.far hbo r hr hw

theorem has_at {a o : Bool} {l u n : Int} (h : hasF a l u n = o) (w : World) : Calls Try.prog 28 #[.agg #[.bool a, .int .i64 l, .int .i64 u], .int .i64 n] w fun e w' => e = .returned (.bool o) ∧ Below w.heap.size w w' :=
  (has_impl a l u n w).mono fun e w' ⟨h1, h2⟩ => ⟨by rw [h] at h1; exact h1, h2⟩
theorem num_at {op a b y : Int} {o : Bool} (h : doF op a b = y) (k : doOk op a b = o) (w : World) : Calls Try.prog 29 #[.int .i64 op, .int .i64 a, .int .i64 b] w fun e w' => e = .returned (.tuple #[.int .i64 y, .bool o]) ∧ Below w.heap.size w w' :=
  (do_impl op a b w).mono fun e w' ⟨h1, h2⟩ => ⟨by rw [h, k] at h1; exact h1, h2⟩
theorem ofw_at {n : Int} (h : isW n = true) (w : World) : Calls Try.prog 23 #[.int .i64 n] w fun e w' => e = .returned (.agg #[.bool true, .int .i64 n, .int .i64 n]) ∧ Below w.heap.size w w' :=
  (of_impl n w).mono fun e w' ⟨h1, h2⟩ => ⟨by rw [show ofF n = (true, n, n) by simp [ofF, h]] at h1; exact h1, h2⟩
end Go.Proofs.Ytlnfjjciilieeaa
