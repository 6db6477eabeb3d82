import Derived.Test.YtdomalclpjijaaaB6
import Derived.Test.YtdomalclpjijaaaB3
import Derived.Test.YtdomalclpjijaaaB10
/-
  Plain facts on joins of spans: no claim by itself.
-/
namespace Go.Proofs.Ytdomalclpjijaaa
set_option linter.unusedVariables false
set_option linter.unusedSimpArgs false

theorem join_all {a b c : Bool} {al ah bl bh cl ch : Int} (h1 : okF a al ah = true) (h2 : okF b bl bh = true) (h : joinF a al ah b bl bh = (c, cl, ch)) :
    okF c cl ch = true ∧ inF a al ah c cl ch = true ∧ inF b bl bh c cl ch = true ∧ joinF b bl bh a al ah = (c, cl, ch) ∧ joinF c cl ch a al ah = (c, cl, ch) := by
  cases a
  · obtain ⟨rfl, rfl⟩ := okF_no h1
    cases b
    · obtain ⟨rfl, rfl⟩ := okF_no h2
      simp [joinF, h1] at h
      obtain ⟨rfl, rfl, rfl⟩ := h
      simp [joinF, inF, h1]
    · simp [joinF, h1, h2] at h
      obtain ⟨rfl, rfl, rfl⟩ := h
      simp [joinF, inF, h1, h2]
  · have e1 := okF_bd h1
    cases b
    · obtain ⟨rfl, rfl⟩ := okF_no h2
      simp [joinF, h1, h2] at h
      obtain ⟨rfl, rfl, rfl⟩ := h
      simp [joinF, inF, h1, h2]
    · have e2 := okF_bd h2
      simp [joinF, h1, h2] at h
      obtain ⟨rfl, rfl, rfl⟩ := h
      have h3 : okF true (min al bl) (max ah bh) = true := okF_t (by omega)
      simp [joinF, inF, h1, h2, h3]
      omega
theorem join_least {a b c d : Bool} {al ah bl bh cl ch dl dh : Int} (h1 : okF a al ah = true) (h2 : okF b bl bh = true) (h : joinF a al ah b bl bh = (c, cl, ch)) (hd1 : inF a al ah d dl dh = true) (hd2 : inF b bl bh d dl dh = true) : inF c cl ch d dl dh = true := by
  have hok := (join_all h1 h2 h).1
  have hd : okF d dl dh = true := by
    simp only [inF, Bool.and_eq_true] at hd1
    exact hd1.1.2
  simp only [inF, h1, h2, hd, hok, Bool.true_and] at hd1 hd2 ⊢
  cases a
  · obtain ⟨rfl, rfl⟩ := okF_no h1
    simp [joinF, h1, h2] at h
    obtain ⟨rfl, rfl, rfl⟩ := h
    exact hd2
  · cases b
    · obtain ⟨rfl, rfl⟩ := okF_no h2
      simp [joinF, h1, h2] at h
      obtain ⟨rfl, rfl, rfl⟩ := h
      exact hd1
    · simp [joinF, h1, h2] at h
      obtain ⟨rfl, rfl, rfl⟩ := h
      simp at hd1 hd2 ⊢
      refine ⟨hd1.1, ?_⟩
      omega
end Go.Proofs.Ytdomalclpjijaaa

/-
  Plain mathematics: SpanDo and SpanWhen have an answer at every two spans, and of more they give no less.
-/
namespace Go.Proofs.Ytdomalclpjijaaa
set_option linter.unusedVariables false
set_option linter.unusedSimpArgs false

theorem hull_ex {T : Int → Prop} (h : ∀ n, T n → -16 ≤ n ∧ n ≤ 15) : ∃ s, Hull T s := by
  have key : ∀ k : Nat, ∃ s, Hull (fun n => T n ∧ n < -16 + (k : Int)) s := by
    intro k
    induction k with
    | zero => exact ⟨noSp, Hull.empty fun n hn => by have := h n hn.1; have := hn.2; omega⟩
    | succ k ih =>
      obtain ⟨s, hs⟩ := ih
      by_cases e : T (-16 + (k : Int))
      · refine ⟨addS s (-16 + (k : Int)), (hs.add (-16 + (k : Int))).congr fun n => ?_⟩
        constructor
        · rintro (⟨h1, h2⟩ | rfl)
          · exact ⟨h1, by omega⟩
          · exact ⟨e, by omega⟩
        · rintro ⟨h1, h2⟩
          by_cases e2 : n = -16 + (k : Int)
          · exact .inr e2
          · exact .inl ⟨h1, by omega⟩
      · refine ⟨s, hs.congr fun n => ?_⟩
        constructor
        · rintro ⟨h1, h2⟩; exact ⟨h1, by omega⟩
        · rintro ⟨h1, h2⟩
          by_cases e2 : n = -16 + (k : Int)
          · rw [e2] at h1; exact absurd h1 e
          · exact ⟨h1, by omega⟩
  obtain ⟨s, hs⟩ := key 32
  exact ⟨s, hs.congr fun n => ⟨fun q => q.1, fun q => ⟨q, by have := h n q; omega⟩⟩⟩

theorem isW_iff {n : Int} : isW n = true ↔ -16 ≤ n ∧ n ≤ 15 := by simp [isW]

theorem do_ex (op : Int) (a : Bool) (al ah : Int) (b : Bool) (bl bh : Int) : ∃ s, DoIs op a al ah b bl bh s := by
  cases hb : bothF a al ah b bl bh
  · exact ⟨noSp, ⟨fun _ => rfl, (fun h => by rw [hb] at h; cases h), (fun h => by rw [hb] at h; cases h)⟩⟩
  · by_cases e : ∀ n, BoxT op al ah bl bh n → isW n = true
    · obtain ⟨s, hs⟩ := hull_ex (T := BoxT op al ah bl bh) fun n hn => isW_iff.1 (e n hn)
      exact ⟨s, ⟨(fun h => by rw [hb] at h; cases h), (fun _ n hn hw => by rw [e n hn] at hw; cases hw), fun _ _ => hs⟩⟩
    · exact ⟨(true, -16, 15), ⟨(fun h => by rw [hb] at h; cases h), fun _ _ _ _ => rfl, fun _ h => absurd h e⟩⟩

theorem both_all {a b : Bool} {al ah bl bh : Int} (h : bothF a al ah b bl bh = true) : a = true ∧ b = true ∧ -16 ≤ al ∧ ah ≤ 15 ∧ al ≤ ah ∧ -16 ≤ bl ∧ bh ≤ 15 ∧ bl ≤ bh := by
  simp only [bothF, Bool.and_eq_true] at h
  obtain ⟨⟨⟨h1, h2⟩, rfl⟩, rfl⟩ := h
  simp [okF] at h1 h2
  exact ⟨rfl, rfl, by omega, by omega, by omega, by omega, by omega, by omega⟩

theorem when_ex (op : Int) (a : Bool) (al ah : Int) (b : Bool) (bl bh : Int) (yes : Bool) : ∃ s t, WhenIs op a al ah b bl bh yes s t := by
  by_cases e : bothF a al ah b bl bh = true ∧ (op = 5 ∨ op = 6)
  · obtain ⟨_, _, h1, h2, h3, h4, h5, h6⟩ := both_all e.1
    refine ⟨_, _, fun h => ?_, fun _ _ => ⟨whenX_hull e.2 h3 h6, whenY_hull e.2 h3 h6⟩⟩
    exfalso
    rcases h with h | h
    · rw [e.1] at h; cases h
    · omega
  · refine ⟨noSp, noSp, fun _ => ⟨rfl, rfl⟩, fun h1 h2 => absurd ⟨h1, h2⟩ e⟩

theorem in_none {b : Bool} {bl bh : Int} (h : okF b bl bh = true) : inF false 0 0 b bl bh = true := by
  unfold inF; simp [okF]; simpa [okF] using h

theorem hull_in {T U : Int → Prop} {s t : Sp} (hs : Hull T s) (ht : Hull U t) (hTU : ∀ n, T n → U n) (hU : ∀ n, U n → -16 ≤ n ∧ n ≤ 15) : inF s.1 s.2.1 s.2.2 t.1 t.2.1 t.2.2 = true := by
  have okt : okF t.1 t.2.1 t.2.2 = true := by
    cases e : t.1
    · have := ht.non e; rw [this]; rfl
    · have h1 := hU _ (ht.lo e); have h2 := hU _ (ht.hi e)
      have h3 := ht.all _ (ht.lo e)
      simp [okF]; omega
  cases e : s.1
  · have := hs.non e
    rw [this]
    exact in_none okt
  · have h1 := ht.all _ (hTU _ (hs.lo e)); have h2 := ht.all _ (hTU _ (hs.hi e))
    have h3 := hU _ (hTU _ (hs.lo e)); have h4 := hU _ (hTU _ (hs.hi e))
    have h5 := hs.all _ (hs.lo e)
    rw [h1.1] at okt ⊢
    have k1 := hU _ (ht.lo h1.1); have k2 := hU _ (ht.hi h1.1)
    simp [inF, okF]
    omega

/-- the join of two ok spans, of which the first is not none -/
theorem join_parts {a c p : Bool} {al ah cl ch pl ph : Int} (h1 : okF a al ah = true) (h2 : okF c cl ch = true) (h : joinF a al ah c cl ch = (p, pl, ph)) (ha : a = true) : p = true ∧ okF p pl ph = true ∧ pl ≤ al ∧ ah ≤ ph := by
  subst ha
  cases c
  · simp [joinF, h1, h2] at h
    obtain ⟨rfl, rfl, rfl⟩ := h
    exact ⟨rfl, h1, by omega, by omega⟩
  · simp [joinF, h1, h2] at h
    obtain ⟨rfl, rfl, rfl⟩ := h
    simp [okF] at h1 h2 ⊢
    omega

theorem join_ok {a c p : Bool} {al ah cl ch pl ph : Int} (h1 : okF a al ah = true) (h2 : okF c cl ch = true) (h : joinF a al ah c cl ch = (p, pl, ph)) : okF p pl ph = true := by
  cases a <;> cases c <;> simp [joinF, h1, h2] at h <;> obtain ⟨rfl, rfl, rfl⟩ := h <;> first | exact h1 | exact h2 | rfl | (simp [okF] at h1 h2 ⊢; omega)

theorem both_join {a b c d p q : Bool} {al ah bl bh cl ch dl dh pl ph ql qh : Int} (ha : okF a al ah = true) (hb : okF b bl bh = true) (hc : okF c cl ch = true) (hd : okF d dl dh = true) (hp : joinF a al ah c cl ch = (p, pl, ph)) (hq : joinF b bl bh d dl dh = (q, ql, qh)) (h : bothF a al ah b bl bh = true) :
    bothF p pl ph q ql qh = true ∧ pl ≤ al ∧ ah ≤ ph ∧ ql ≤ bl ∧ bh ≤ qh := by
  obtain ⟨ea, eb, _⟩ := both_all h
  obtain ⟨e1, e2, e3, e4⟩ := join_parts ha hc hp ea
  obtain ⟨f1, f2, f3, f4⟩ := join_parts hb hd hq eb
  subst e1 f1
  exact ⟨by simp [bothF, e2, f2], e3, e4, f3, f4⟩

theorem do_ok {op : Int} {a : Bool} {al ah : Int} {b : Bool} {bl bh : Int} {s : Sp} (h : DoIs op a al ah b bl bh s) : okF s.1 s.2.1 s.2.2 = true := by
  cases hb : bothF a al ah b bl bh
  · rw [h.out hb]; rfl
  · by_cases e : ∀ n, BoxT op al ah bl bh n → isW n = true
    · have hh := h.near hb e
      cases e1 : s.1
      · rw [hh.non e1]; rfl
      · have h1 := isW_iff.1 (e _ (hh.lo e1)); have h2 := isW_iff.1 (e _ (hh.hi e1)); have h3 := hh.all _ (hh.lo e1)
        simp [okF]; omega
    · have : ∃ n, BoxT op al ah bl bh n ∧ isW n = false := by
        refine Classical.byContradiction fun hne => e fun n hn => ?_
        cases hw : isW n
        · exact absurd ⟨n, hn, hw⟩ hne
        · rfl
      obtain ⟨n, hn, hw⟩ := this
      rw [h.far hb n hn hw]; rfl

theorem do_more {op : Int} {a b c d p q : Bool} {al ah bl bh cl ch dl dh pl ph ql qh : Int} {s t : Sp} (ha : okF a al ah = true) (hb : okF b bl bh = true) (hc : okF c cl ch = true) (hd : okF d dl dh = true) (hp : joinF a al ah c cl ch = (p, pl, ph)) (hq : joinF b bl bh d dl dh = (q, ql, qh))
    (hs : DoIs op a al ah b bl bh s) (ht : DoIs op p pl ph q ql qh t) : inF s.1 s.2.1 s.2.2 t.1 t.2.1 t.2.2 = true := by
  have okt := do_ok ht
  cases hbo : bothF a al ah b bl bh
  · rw [hs.out hbo]; exact in_none okt
  · obtain ⟨hbo', e1, e2, e3, e4⟩ := both_join ha hb hc hd hp hq hbo
    have sub : ∀ n, BoxT op al ah bl bh n → BoxT op pl ph ql qh n := by
      rintro n ⟨x, y, h1, h2, h3, h4, h5, h6⟩
      exact ⟨x, y, by omega, by omega, by omega, by omega, h5, h6⟩
    by_cases e : ∀ n, BoxT op pl ph ql qh n → isW n = true
    · exact hull_in (hs.near hbo fun n hn => e n (sub n hn)) (ht.near hbo' e) sub fun n hn => isW_iff.1 (e n hn)
    · have : ∃ n, BoxT op pl ph ql qh n ∧ isW n = false := by
        refine Classical.byContradiction fun hne => e fun n hn => ?_
        cases hw : isW n
        · exact absurd ⟨n, hn, hw⟩ hne
        · rfl
      obtain ⟨n, hn, hw⟩ := this
      rw [ht.far hbo' n hn hw]
      have oks := do_ok hs
      obtain ⟨s1, s2, s3⟩ := s
      cases s1
      · simp [okF] at oks; obtain ⟨rfl, rfl⟩ := oks; exact in_none rfl
      · simp [okF] at oks; simp [inF, okF]; omega

theorem when_more {op : Int} {yes : Bool} {a b c d p q : Bool} {al ah bl bh cl ch dl dh pl ph ql qh : Int} {s t s' t' : Sp} (ha : okF a al ah = true) (hb : okF b bl bh = true) (hc : okF c cl ch = true) (hd : okF d dl dh = true) (hp : joinF a al ah c cl ch = (p, pl, ph)) (hq : joinF b bl bh d dl dh = (q, ql, qh))
    (hs : WhenIs op a al ah b bl bh yes s t) (ht : WhenIs op p pl ph q ql qh yes s' t') : inF s.1 s.2.1 s.2.2 s'.1 s'.2.1 s'.2.2 = true ∧ inF t.1 t.2.1 t.2.2 t'.1 t'.2.1 t'.2.2 = true := by
  have bd : ∀ {al ah bl bh : Int} {a b : Bool} {s t : Sp}, WhenIs op a al ah b bl bh yes s t → okF s.1 s.2.1 s.2.2 = true ∧ okF t.1 t.2.1 t.2.2 = true := by
    intro al ah bl bh a b s t h
    by_cases e : bothF a al ah b bl bh = true ∧ (op = 5 ∨ op = 6)
    · obtain ⟨_, _, h1, h2, h3, h4, h5, h6⟩ := both_all e.1
      obtain ⟨hx, hy⟩ := h.here e.1 e.2
      refine ⟨?_, ?_⟩
      · cases e1 : s.1
        · rw [hx.non e1]; rfl
        · obtain ⟨_, k1, k2, _⟩ := hx.lo e1; obtain ⟨_, k3, k4, _⟩ := hx.hi e1; have k5 := hx.all _ (hx.lo e1)
          simp [okF]; omega
      · cases e1 : t.1
        · rw [hy.non e1]; rfl
        · obtain ⟨_, _, _, k1, k2, _⟩ := hy.lo e1; obtain ⟨_, _, _, k3, k4, _⟩ := hy.hi e1; have k5 := hy.all _ (hy.lo e1)
          simp [okF]; omega
    · obtain ⟨rfl, rfl⟩ := h.out (by
        cases hb : bothF a al ah b bl bh
        · exact .inl rfl
        · refine .inr ?_; have : ¬ (op = 5 ∨ op = 6) := fun h => e ⟨hb, h⟩; omega)
      exact ⟨rfl, rfl⟩
  have okt := bd ht
  by_cases e : bothF a al ah b bl bh = true ∧ (op = 5 ∨ op = 6)
  · obtain ⟨hbo', e1, e2, e3, e4⟩ := both_join ha hb hc hd hp hq e.1
    obtain ⟨_, _, h1, h2, h3, h4, h5, h6⟩ := both_all hbo'
    obtain ⟨hx, hy⟩ := hs.here e.1 e.2
    obtain ⟨hx', hy'⟩ := ht.here hbo' e.2
    refine ⟨hull_in hx hx' ?_ ?_, hull_in hy hy' ?_ ?_⟩
    · rintro n ⟨y, k1, k2, k3, k4, k5⟩; exact ⟨y, by omega, by omega, by omega, by omega, k5⟩
    · rintro n ⟨y, k1, k2, k3, k4, k5⟩; omega
    · rintro n ⟨y, k1, k2, k3, k4, k5⟩; exact ⟨y, by omega, by omega, by omega, by omega, k5⟩
    · rintro n ⟨y, k1, k2, k3, k4, k5⟩; omega
  · obtain ⟨rfl, rfl⟩ := hs.out (by
      cases hb : bothF a al ah b bl bh
      · exact .inl rfl
      · refine .inr ?_; have : ¬ (op = 5 ∨ op = 6) := fun h => e ⟨hb, h⟩; omega)
    exact ⟨in_none okt.1, in_none okt.2⟩

end Go.Proofs.Ytdomalclpjijaaa
