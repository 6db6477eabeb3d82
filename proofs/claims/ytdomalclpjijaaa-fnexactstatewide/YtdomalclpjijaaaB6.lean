import Derived.Test.YtdomalclpjijaaaB2
import Derived.Test.YtdomalclpjijaaaB1
/-
  The contracts of KindSpan, the program's and the model's.
-/
namespace Go.Proofs.Ytdomalclpjijaaa
open Go.RowKit
set_option linter.unusedVariables false
set_option linter.unusedSimpArgs false

end Go.Proofs.Ytdomalclpjijaaa

/-
  Plain mathematics of SpanDo and SpanWhen: the least span with some numbers, and where the least and the greatest of an operation lie.
-/
namespace Go.Proofs.Ytdomalclpjijaaa

/-- s is the least span with all numbers of T; none, if there are none -/
structure Hull (T : Int → Prop) (s : Sp) : Prop where
  non : s.1 = false → s = noSp
  all : ∀ n, T n → s.1 = true ∧ s.2.1 ≤ n ∧ n ≤ s.2.2
  lo : s.1 = true → T s.2.1
  hi : s.1 = true → T s.2.2

def addS (s : Sp) (n : Int) : Sp := if s.1 = true then (true, min s.2.1 n, max s.2.2 n) else (true, n, n)

theorem Hull.uniq {T : Int → Prop} {s t : Sp} (h : Hull T s) (k : Hull T t) : s = t := by
  obtain ⟨a, l, u⟩ := s
  obtain ⟨b, m, v⟩ := t
  have hl := h.lo; have hh := h.hi; have kl := k.lo; have kh := k.hi
  have ha := h.all; have ka := k.all; have hn := h.non; have kn := k.non
  simp only at hl hh kl kh ha ka hn kn
  cases a <;> cases b
  · rw [hn rfl, kn rfl]
  · have := (ha m (kl rfl)).1; simp at this
  · have := (ka l (hl rfl)).1; simp at this
  · have e1 := (ka l (hl rfl)).2.1
    have e2 := (ha m (kl rfl)).2.1
    have e3 := (ka u (hh rfl)).2.2
    have e4 := (ha v (kh rfl)).2.2
    have : l = m := by omega
    have : u = v := by omega
    subst l u; rfl

theorem Hull.congr {T U : Int → Prop} {s : Sp} (h : Hull T s) (e : ∀ n, T n ↔ U n) : Hull U s :=
  ⟨h.non, fun n hn => h.all n ((e n).2 hn), fun a => (e _).1 (h.lo a), fun a => (e _).1 (h.hi a)⟩

theorem Hull.empty {T : Int → Prop} (h : ∀ n, ¬ T n) : Hull T noSp :=
  ⟨fun _ => rfl, fun n hn => absurd hn (h n), fun a => by simp [noSp] at a, fun a => by simp [noSp] at a⟩

theorem Hull.add {T : Int → Prop} {s : Sp} (h : Hull T s) (n : Int) : Hull (fun m => T m ∨ m = n) (addS s n) := by
  obtain ⟨a, l, u⟩ := s
  have hl := h.lo; have hh := h.hi; have ha := h.all
  simp only at hl hh ha
  cases a
  · refine ⟨by simp [addS], ?_, ?_, ?_⟩
    · rintro m (hm | rfl)
      · have := (ha m hm).1; simp at this
      · simp [addS]
    · intro _; right; simp [addS]
    · intro _; right; simp [addS]
  · refine ⟨by simp [addS], ?_, ?_, ?_⟩
    · rintro m (hm | rfl)
      · have := ha m hm; simp [addS]; omega
      · simp [addS]; omega
    · intro _
      simp only [addS, if_true]
      by_cases e : l ≤ n
      · left; rw [Int.min_eq_left e]; exact hl rfl
      · right; rw [Int.min_eq_right (by omega)]
    · intro _
      simp only [addS, if_true]
      by_cases e : n ≤ u
      · left; rw [Int.max_eq_left e]; exact hh rfl
      · right; rw [Int.max_eq_right (by omega)]

/-- all that an operation gives of pairs -/
def BoxT (op al ah bl bh n : Int) : Prop := ∃ p q, al ≤ p ∧ p ≤ ah ∧ bl ≤ q ∧ q ≤ bh ∧ canF op q = true ∧ rawF op p q = n
/-- the same of the pairs ahead of x and y -/
def SeenT (op al bl bh x y n : Int) : Prop := ∃ p q, al ≤ p ∧ bl ≤ q ∧ q ≤ bh ∧ (p < x ∨ p = x ∧ q < y) ∧ canF op q = true ∧ rawF op p q = n

theorem seen_zero (op al bl bh n : Int) : ¬ SeenT op al bl bh al bl n := by
  rintro ⟨p, q, h1, h2, h3, h4, _⟩; omega
theorem seen_can {op al bl bh x y : Int} (hx : al ≤ x) (hy : bl ≤ y) (hy' : y ≤ bh) (hc : canF op y = true) (n : Int) :
    (SeenT op al bl bh x y n ∨ n = rawF op x y) ↔ SeenT op al bl bh x (y + 1) n := by
  constructor
  · rintro (⟨p, q, h1, h2, h3, h4, h5, h6⟩ | rfl)
    · exact ⟨p, q, h1, h2, h3, by omega, h5, h6⟩
    · exact ⟨x, y, hx, hy, hy', by omega, hc, rfl⟩
  · rintro ⟨p, q, h1, h2, h3, h4, h5, h6⟩
    by_cases e : p = x ∧ q = y
    · right; rw [← h6, e.1, e.2]
    · left; exact ⟨p, q, h1, h2, h3, by omega, h5, h6⟩
theorem seen_not {op al bl bh x y : Int} (hc : canF op y = false) (n : Int) :
    SeenT op al bl bh x y n ↔ SeenT op al bl bh x (y + 1) n := by
  constructor
  · rintro ⟨p, q, h1, h2, h3, h4, h5, h6⟩
    exact ⟨p, q, h1, h2, h3, by omega, h5, h6⟩
  · rintro ⟨p, q, h1, h2, h3, h4, h5, h6⟩
    by_cases e : q = y
    · rw [e, hc] at h5; simp at h5
    · exact ⟨p, q, h1, h2, h3, by omega, h5, h6⟩
theorem seen_row {op al bl bh x y : Int} (hy : bh < y) (n : Int) : SeenT op al bl bh x y n ↔ SeenT op al bl bh (x + 1) bl n := by
  constructor
  · rintro ⟨p, q, h1, h2, h3, h4, h5, h6⟩
    exact ⟨p, q, h1, h2, h3, by omega, h5, h6⟩
  · rintro ⟨p, q, h1, h2, h3, h4, h5, h6⟩
    exact ⟨p, q, h1, h2, h3, by omega, h5, h6⟩
theorem seen_box {op al ah bl bh x : Int} (hx : x = ah + 1) (n : Int) : SeenT op al bl bh x bl n ↔ BoxT op al ah bl bh n := by
  constructor
  · rintro ⟨p, q, h1, h2, h3, h4, h5, h6⟩
    exact ⟨p, q, h1, by omega, h2, h3, h5, h6⟩
  · rintro ⟨p, q, h1, h2, h3, h4, h5, h6⟩
    exact ⟨p, q, h1, h3, h4, by omega, h5, h6⟩
theorem seen_sub {op al ah bl bh x y n : Int} (hx : x ≤ ah) (h : SeenT op al bl bh x y n) : BoxT op al ah bl bh n := by
  obtain ⟨p, q, h1, h2, h3, h4, h5, h6⟩ := h
  exact ⟨p, q, h1, by omega, h2, h3, h5, h6⟩

/-- what SpanDo is -/
structure DoIs (op : Int) (a : Bool) (al ah : Int) (b : Bool) (bl bh : Int) (s : Sp) : Prop where
  out : bothF a al ah b bl bh = false → s = noSp
  far : bothF a al ah b bl bh = true → ∀ n, BoxT op al ah bl bh n → isW n = false → s = (true, -16, 15)
  near : bothF a al ah b bl bh = true → (∀ n, BoxT op al ah bl bh n → isW n = true) → Hull (BoxT op al ah bl bh) s

theorem DoIs.uniq {op : Int} {a : Bool} {al ah : Int} {b : Bool} {bl bh : Int} {s t : Sp} (h : DoIs op a al ah b bl bh s) (k : DoIs op a al ah b bl bh t) : s = t := by
  cases hb : bothF a al ah b bl bh
  · rw [h.out hb, k.out hb]
  · by_cases e : ∀ n, BoxT op al ah bl bh n → isW n = true
    · exact (h.near hb e).uniq (k.near hb e)
    · have : ∃ n, BoxT op al ah bl bh n ∧ isW n = false := by
        refine Classical.byContradiction fun hne => e fun n hn => ?_
        cases hw : isW n
        · exact absurd ⟨n, hn, hw⟩ hne
        · rfl
      obtain ⟨n, hn, hw⟩ := this
      rw [h.far hb n hn hw, k.far hb n hn hw]

/-- from the hull of all to what is told -/
theorem DoIs.of_hull {op : Int} {a : Bool} {al ah : Int} {b : Bool} {bl bh : Int} {s : Sp} (hb : bothF a al ah b bl bh = true) (h : Hull (BoxT op al ah bl bh) s) :
    DoIs op a al ah b bl bh (if (s.1 && !(isW s.2.1 && isW s.2.2)) = true then (true, -16, 15) else s) := by
  split
  · rename_i e
    simp only [Bool.and_eq_true, Bool.not_eq_true', Bool.and_eq_false_iff] at e
    refine ⟨fun h' => by simp [hb] at h', fun _ _ _ _ => rfl, fun _ hall => ?_⟩
    rcases e.2 with e2 | e2
    · have := hall _ (h.lo e.1); simp [e2] at this
    · have := hall _ (h.hi e.1); simp [e2] at this
  · rename_i e
    refine ⟨fun h' => by simp [hb] at h', fun _ n hn hw => ?_, fun _ _ => h⟩
    have hk := h.all n hn
    exfalso
    apply e
    simp only [hk.1, Bool.true_and, Bool.not_eq_true', Bool.and_eq_false_iff]
    simp only [isW, decide_eq_false_iff_not] at hw ⊢
    omega

/-- the words of the second span at which the ends are found -/
def endsF (op bl bh : Int) : List Int := [bl, bh, -1, 1].filter fun n => inB n bl bh && !(decide (op = 4) && decide (n = 0))
def EndT (op al ah : Int) (l : List Int) (n : Int) : Prop := ∃ p q, (p = al ∨ p = ah) ∧ q ∈ l ∧ rawF op p q = n

theorem end_nil (op al ah n : Int) : ¬ EndT op al ah [] n := by rintro ⟨p, q, _, h, _⟩; simp at h
theorem end_snoc (op al ah : Int) (l : List Int) (e n : Int) : ((EndT op al ah l n ∨ n = rawF op al e) ∨ n = rawF op ah e) ↔ EndT op al ah (l ++ [e]) n := by
  constructor
  · rintro ((⟨p, q, h1, h2, h3⟩ | rfl) | rfl)
    · exact ⟨p, q, h1, by simp [h2], h3⟩
    · exact ⟨al, e, .inl rfl, by simp, rfl⟩
    · exact ⟨ah, e, .inr rfl, by simp, rfl⟩
  · rintro ⟨p, q, h1, h2, h3⟩
    simp at h2
    rcases h2 with h2 | rfl
    · exact .inl (.inl ⟨p, q, h1, h2, h3⟩)
    · rcases h1 with rfl | rfl
      · exact .inl (.inr h3.symm)
      · exact .inr h3.symm

theorem ends_mem {op bl bh q : Int} : q ∈ endsF op bl bh ↔ (q = bl ∨ q = bh ∨ q = -1 ∨ q = 1) ∧ bl ≤ q ∧ q ≤ bh ∧ ¬ (op = 4 ∧ q = 0) := by
  unfold endsF
  simp only [List.mem_filter, List.mem_cons, List.not_mem_nil, or_false, inB, Bool.and_eq_true, decide_eq_true_eq, Bool.not_eq_true', Bool.and_eq_false_iff, decide_eq_false_iff_not]
  constructor
  · rintro ⟨h, h1, h2⟩; exact ⟨h, by omega, by omega, by omega⟩
  · rintro ⟨h, h1, h2, h3⟩; exact ⟨h, by omega, by omega⟩

theorem tdivY {p q q' : Int} (h0 : 0 ≤ p) (h1 : 0 < q) (h2 : q ≤ q') : p.tdiv q' ≤ p.tdiv q := by
  obtain ⟨n, rfl⟩ := Int.eq_ofNat_of_zero_le h0
  obtain ⟨m, rfl⟩ := Int.eq_ofNat_of_zero_le (by omega : 0 ≤ q)
  obtain ⟨k, rfl⟩ := Int.eq_ofNat_of_zero_le (by omega : 0 ≤ q')
  rw [← Int.ofNat_tdiv, ← Int.ofNat_tdiv]
  have := Nat.div_le_div_left (a := n) (show m ≤ k by omega) (by omega)
  omega

/-- the first word moves to an end -/
theorem moveX {op al ah p q : Int} (h1 : 1 ≤ op) (h5 : op ≤ 5) (ha : al ≤ p) (hb : p ≤ ah) :
    (∃ p', (p' = al ∨ p' = ah) ∧ rawF op p' q ≤ rawF op p q) ∧ (∃ p', (p' = al ∨ p' = ah) ∧ rawF op p q ≤ rawF op p' q) := by
  have key : ((∀ x y : Int, x ≤ y → rawF op x q ≤ rawF op y q) ∨ (∀ x y : Int, x ≤ y → rawF op y q ≤ rawF op x q)) := by
    have hop : op = 1 ∨ op = 2 ∨ op = 3 ∨ op = 4 ∨ op = 5 := by omega
    rcases hop with rfl | rfl | rfl | rfl | rfl
    · left; intro x y h; simp [rawF]; omega
    · left; intro x y h; simp [rawF]; omega
    · rcases Int.le_total 0 q with hq | hq
      · left; intro x y h; simp [rawF]; exact Int.mul_le_mul_of_nonneg_right h hq
      · right; intro x y h; simp [rawF]; exact Int.mul_le_mul_of_nonpos_right h hq
    · rcases Int.lt_trichotomy q 0 with hq | rfl | hq
      · right; intro x y h
        simp only [rawF]
        have e := Int.tdiv_le_tdiv (c := -q) (by omega) h
        rw [Int.tdiv_neg, Int.tdiv_neg] at e
        simp; omega
      · left; intro x y h; simp [rawF]
      · left; intro x y h; simp [rawF]; exact Int.tdiv_le_tdiv hq h
    · right; intro x y h; simp [rawF]; repeat' split
      all_goals omega
  rcases key with k | k
  · exact ⟨⟨al, .inl rfl, k _ _ ha⟩, ⟨ah, .inr rfl, k _ _ hb⟩⟩
  · exact ⟨⟨ah, .inr rfl, k _ _ hb⟩, ⟨al, .inl rfl, k _ _ ha⟩⟩

/-- the second word moves to one of the ends -/
theorem moveY {op bl bh p q : Int} (h1 : 1 ≤ op) (h5 : op ≤ 5) (hc : canF op q = true) (ha : bl ≤ q) (hb : q ≤ bh) :
    (∃ q', q' ∈ endsF op bl bh ∧ rawF op p q' ≤ rawF op p q) ∧ (∃ q', q' ∈ endsF op bl bh ∧ rawF op p q ≤ rawF op p q') := by
  have hop : op = 1 ∨ op = 2 ∨ op = 3 ∨ op = 4 ∨ op = 5 := by omega
  have two : op ≠ 4 → ((∀ x y : Int, x ≤ y → rawF op p x ≤ rawF op p y) ∨ (∀ x y : Int, x ≤ y → rawF op p y ≤ rawF op p x)) →
      (∃ q', q' ∈ endsF op bl bh ∧ rawF op p q' ≤ rawF op p q) ∧ (∃ q', q' ∈ endsF op bl bh ∧ rawF op p q ≤ rawF op p q') := by
    intro h4 k
    have m1 : bl ∈ endsF op bl bh := ends_mem.2 ⟨.inl rfl, by omega, by omega, by omega⟩
    have m2 : bh ∈ endsF op bl bh := ends_mem.2 ⟨.inr (.inl rfl), by omega, by omega, by omega⟩
    rcases k with k | k
    · exact ⟨⟨bl, m1, k _ _ ha⟩, ⟨bh, m2, k _ _ hb⟩⟩
    · exact ⟨⟨bh, m2, k _ _ hb⟩, ⟨bl, m1, k _ _ ha⟩⟩
  rcases hop with rfl | rfl | rfl | rfl | rfl
  · refine two (by omega) ?_
    left; intro x y h; simp [rawF]; omega
  · refine two (by omega) ?_
    right; intro x y h; simp [rawF]; omega
  · refine two (by omega) ?_
    rcases Int.le_total 0 p with hq | hq
    · left; intro x y h; simp [rawF]; exact Int.mul_le_mul_of_nonneg_left h hq
    · right; intro x y h; simp [rawF]; exact Int.mul_le_mul_of_nonpos_left hq h
  · have hq0 : q ≠ 0 := by simp [canF] at hc; omega
    simp only [rawF]
    simp only [show ¬ ((4 : Int) = 1) by omega, show ¬ ((4 : Int) = 2) by omega, show ¬ ((4 : Int) = 3) by omega, if_false, if_true]
    rcases Int.lt_trichotomy q 0 with hq | hq | hq
    · -- below 0
      obtain ⟨e1, e1m, e1a, e1b⟩ : ∃ e, e ∈ endsF 4 bl bh ∧ e < 0 ∧ e ≤ q := ⟨bl, ends_mem.2 ⟨.inl rfl, by omega, by omega, by omega⟩, by omega, by omega⟩
      obtain ⟨e2, e2m, e2a, e2b⟩ : ∃ e, e ∈ endsF 4 bl bh ∧ e < 0 ∧ q ≤ e := by
        by_cases hz : bh < 0
        · exact ⟨bh, ends_mem.2 ⟨.inr (.inl rfl), by omega, by omega, by omega⟩, by omega, by omega⟩
        · exact ⟨-1, ends_mem.2 ⟨.inr (.inr (.inl rfl)), by omega, by omega, by omega⟩, by omega, by omega⟩
      rcases Int.le_total 0 p with hp | hp
      · have k1 := tdivY hp (show 0 < -q by omega) (show -q ≤ -e1 by omega)
        have k2 := tdivY hp (show 0 < -e2 by omega) (show -e2 ≤ -q by omega)
        simp only [Int.tdiv_neg] at k1 k2
        exact ⟨⟨e2, e2m, by omega⟩, ⟨e1, e1m, by omega⟩⟩
      · have k1 := tdivY (show 0 ≤ -p by omega) (show 0 < -q by omega) (show -q ≤ -e1 by omega)
        have k2 := tdivY (show 0 ≤ -p by omega) (show 0 < -e2 by omega) (show -e2 ≤ -q by omega)
        simp only [Int.tdiv_neg, Int.neg_tdiv] at k1 k2
        exact ⟨⟨e1, e1m, by omega⟩, ⟨e2, e2m, by omega⟩⟩
    · exact absurd hq hq0
    · obtain ⟨e1, e1m, e1a, e1b⟩ : ∃ e, e ∈ endsF 4 bl bh ∧ 0 < e ∧ e ≤ q := by
        by_cases hz : 0 < bl
        · exact ⟨bl, ends_mem.2 ⟨.inl rfl, by omega, by omega, by omega⟩, by omega, by omega⟩
        · exact ⟨1, ends_mem.2 ⟨.inr (.inr (.inr rfl)), by omega, by omega, by omega⟩, by omega, by omega⟩
      obtain ⟨e2, e2m, e2a, e2b⟩ : ∃ e, e ∈ endsF 4 bl bh ∧ 0 < e ∧ q ≤ e := ⟨bh, ends_mem.2 ⟨.inr (.inl rfl), by omega, by omega, by omega⟩, by omega, by omega⟩
      rcases Int.le_total 0 p with hp | hp
      · have k1 := tdivY hp e1a e1b
        have k2 := tdivY hp hq e2b
        exact ⟨⟨e2, e2m, by omega⟩, ⟨e1, e1m, by omega⟩⟩
      · have k1 := tdivY (show 0 ≤ -p by omega) e1a e1b
        have k2 := tdivY (show 0 ≤ -p by omega) hq e2b
        simp only [Int.neg_tdiv] at k1 k2
        exact ⟨⟨e1, e1m, by omega⟩, ⟨e2, e2m, by omega⟩⟩
  · refine two (by omega) ?_
    left; intro x y h; simp [rawF]; repeat' split
    all_goals omega

theorem hull_ends {op al ah bl bh : Int} {s : Sp} (h1 : 1 ≤ op) (h5 : op ≤ 5) (ha : al ≤ ah) (h : Hull (EndT op al ah (endsF op bl bh)) s) : Hull (BoxT op al ah bl bh) s := by
  have sub : ∀ n, EndT op al ah (endsF op bl bh) n → BoxT op al ah bl bh n := by
    rintro n ⟨p, q, hp, hq, hr⟩
    rw [ends_mem] at hq
    exact ⟨p, q, by omega, by omega, hq.2.1, hq.2.2.1, by simp [canF]; omega, hr⟩
  refine ⟨h.non, ?_, fun e => sub _ (h.lo e), fun e => sub _ (h.hi e)⟩
  rintro n ⟨p, q, p1, p2, q1, q2, hc, hr⟩
  obtain ⟨⟨q', hq', l1⟩, ⟨q'', hq'', l2⟩⟩ := moveY (p := p) h1 h5 hc q1 q2
  obtain ⟨⟨p', hp', l3⟩, _⟩ := moveX (q := q') h1 h5 p1 p2
  obtain ⟨_, ⟨p'', hp'', l4⟩⟩ := moveX (q := q'') h1 h5 p1 p2
  have k1 := h.all _ ⟨p', q', hp', hq', rfl⟩
  have k2 := h.all _ ⟨p'', q'', hp'', hq'', rfl⟩
  exact ⟨k1.1, by omega, by omega⟩

/-- what two may give, asked whether they are the same -/
def sameSp (al ah bl bh : Int) : Sp := if (mkF (max al bl) (min ah bh)).1 = false then (true, 0, 0) else if al = bl ∧ ah = bh ∧ al = ah then (true, 1, 1) else (true, 0, 1)
theorem hull_same {al ah bl bh : Int} (ha : al ≤ ah) (hb : bl ≤ bh) : Hull (BoxT 6 al ah bl bh) (sameSp al ah bl bh) := by
  have one : ∀ p, al ≤ p → p ≤ ah → bl ≤ p → p ≤ bh → BoxT 6 al ah bl bh 1 := fun p h1 h2 h3 h4 => ⟨p, p, h1, h2, h3, h4, by simp [canF], by simp [rawF]⟩
  have nul : ∀ p q, al ≤ p → p ≤ ah → bl ≤ q → q ≤ bh → p ≠ q → BoxT 6 al ah bl bh 0 := fun p q h1 h2 h3 h4 h5 => ⟨p, q, h1, h2, h3, h4, by simp [canF], by simp [rawF, h5]⟩
  have bd : ∀ n, BoxT 6 al ah bl bh n → 0 ≤ n ∧ n ≤ 1 := by
    rintro n ⟨p, q, _, _, _, _, _, rfl⟩; simp [rawF]; split <;> omega
  unfold sameSp mkF
  by_cases h1 : min ah bh < max al bl
  · rw [if_pos h1]
    simp only [noSp, if_true]
    refine ⟨by simp, ?_, ?_, ?_⟩
    · rintro n ⟨p, q, p1, p2, q1, q2, _, rfl⟩
      have : p ≠ q := by omega
      simp [rawF, this]
    · intro _; exact nul al bl (by omega) (by omega) (by omega) (by omega) (by omega)
    · intro _; exact nul al bl (by omega) (by omega) (by omega) (by omega) (by omega)
  · rw [if_neg h1]
    simp only [Bool.true_eq_false, if_false]
    split
    · rename_i e
      refine ⟨by simp, ?_, ?_, ?_⟩
      · rintro n ⟨p, q, p1, p2, q1, q2, _, rfl⟩
        have : p = q := by omega
        simp [rawF, this]
      · intro _; exact one al (by omega) (by omega) (by omega) (by omega)
      · intro _; exact one al (by omega) (by omega) (by omega) (by omega)
    · rename_i e
      refine ⟨by simp, fun n hn => ⟨rfl, bd n hn⟩, ?_, ?_⟩
      · intro _
        simp only
        by_cases e1 : al = bh
        · by_cases e2 : al = bl
          · exact nul ah bl (by omega) (by omega) (by omega) (by omega) (by omega)
          · exact nul al bl (by omega) (by omega) (by omega) (by omega) e2
        · exact nul al bh (by omega) (by omega) (by omega) (by omega) e1
      · intro _; exact one (max al bl) (by omega) (by omega) (by omega) (by omega)

theorem box_out {op al ah bl bh n : Int} (h : op < 1 ∨ 6 < op) : ¬ BoxT op al ah bl bh n := by
  rintro ⟨p, q, _, _, _, _, hc, _⟩; simp [canF] at hc; omega

end Go.Proofs.Ytdomalclpjijaaa
