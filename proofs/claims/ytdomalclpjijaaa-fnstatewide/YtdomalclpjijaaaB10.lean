import Derived.Test.YtdomalclpjijaaaB4
import Derived.Test.YtdomalclpjijaaaB3
/-
  The contracts of KindSpan, the program's and the model's.
-/
namespace Go.Proofs.Ytdomalclpjijaaa
open Go.RowKit
set_option linter.unusedVariables false
set_option linter.unusedSimpArgs false

end Go.Proofs.Ytdomalclpjijaaa

/-
  Plain mathematics of SpanWhen: the least spans of the first and of the second words of the pairs of which something is so, or not.
-/
namespace Go.Proofs.Ytdomalclpjijaaa

def oneF (yes : Bool) : Int := if yes = true then 1 else 0
/-- the first words of pairs, and the second ones -/
def FstT (op al ah bl bh : Int) (yes : Bool) (n : Int) : Prop := ∃ q, al ≤ n ∧ n ≤ ah ∧ bl ≤ q ∧ q ≤ bh ∧ rawF op n q = oneF yes
def SndT (op al ah bl bh : Int) (yes : Bool) (n : Int) : Prop := ∃ p, al ≤ p ∧ p ≤ ah ∧ bl ≤ n ∧ n ≤ bh ∧ rawF op p n = oneF yes
/-- the same of pairs ahead of x and y -/
def SeenA (op al bl bh : Int) (yes : Bool) (x y n : Int) : Prop := ∃ q, al ≤ n ∧ bl ≤ q ∧ q ≤ bh ∧ (n < x ∨ n = x ∧ q < y) ∧ rawF op n q = oneF yes
def SeenB (op al bl bh : Int) (yes : Bool) (x y n : Int) : Prop := ∃ p, al ≤ p ∧ bl ≤ n ∧ n ≤ bh ∧ (p < x ∨ p = x ∧ n < y) ∧ rawF op p n = oneF yes

theorem seenA_zero (op al bl bh : Int) (yes : Bool) (n : Int) : ¬ SeenA op al bl bh yes al bl n := by rintro ⟨q, h1, h2, h3, h4, _⟩; omega
theorem seenB_zero (op al bl bh : Int) (yes : Bool) (n : Int) : ¬ SeenB op al bl bh yes al bl n := by rintro ⟨q, h1, h2, h3, h4, _⟩; omega
theorem seenA_yes {op al bl bh : Int} {yes : Bool} {x y : Int} (hx : al ≤ x) (hy : bl ≤ y) (hy' : y ≤ bh) (hc : rawF op x y = oneF yes) (n : Int) :
    (SeenA op al bl bh yes x y n ∨ n = x) ↔ SeenA op al bl bh yes x (y + 1) n := by
  constructor
  · rintro (⟨q, h1, h2, h3, h4, h5⟩ | rfl)
    · exact ⟨q, h1, h2, h3, by omega, h5⟩
    · exact ⟨y, hx, hy, hy', by omega, hc⟩
  · rintro ⟨q, h1, h2, h3, h4, h5⟩
    by_cases e : n = x
    · right; exact e
    · left; exact ⟨q, h1, h2, h3, by omega, h5⟩
theorem seenB_yes {op al bl bh : Int} {yes : Bool} {x y : Int} (hx : al ≤ x) (hy : bl ≤ y) (hy' : y ≤ bh) (hc : rawF op x y = oneF yes) (n : Int) :
    (SeenB op al bl bh yes x y n ∨ n = y) ↔ SeenB op al bl bh yes x (y + 1) n := by
  constructor
  · rintro (⟨q, h1, h2, h3, h4, h5⟩ | rfl)
    · exact ⟨q, h1, h2, h3, by omega, h5⟩
    · exact ⟨x, hx, hy, hy', by omega, hc⟩
  · rintro ⟨q, h1, h2, h3, h4, h5⟩
    by_cases e : n = y
    · right; exact e
    · left; exact ⟨q, h1, h2, h3, by omega, h5⟩
theorem seenA_no {op al bl bh : Int} {yes : Bool} {x y : Int} (hc : rawF op x y ≠ oneF yes) (n : Int) :
    SeenA op al bl bh yes x y n ↔ SeenA op al bl bh yes x (y + 1) n := by
  constructor
  · rintro ⟨q, h1, h2, h3, h4, h5⟩
    exact ⟨q, h1, h2, h3, by omega, h5⟩
  · rintro ⟨q, h1, h2, h3, h4, h5⟩
    by_cases e : n = x ∧ q = y
    · rw [e.1, e.2] at h5; exact absurd h5 hc
    · exact ⟨q, h1, h2, h3, by omega, h5⟩
theorem seenB_no {op al bl bh : Int} {yes : Bool} {x y : Int} (hc : rawF op x y ≠ oneF yes) (n : Int) :
    SeenB op al bl bh yes x y n ↔ SeenB op al bl bh yes x (y + 1) n := by
  constructor
  · rintro ⟨q, h1, h2, h3, h4, h5⟩
    exact ⟨q, h1, h2, h3, by omega, h5⟩
  · rintro ⟨q, h1, h2, h3, h4, h5⟩
    by_cases e : q = x ∧ n = y
    · rw [e.1, e.2] at h5; exact absurd h5 hc
    · exact ⟨q, h1, h2, h3, by omega, h5⟩
theorem seenA_row {op al bl bh : Int} {yes : Bool} {x y : Int} (hy : bh < y) (n : Int) : SeenA op al bl bh yes x y n ↔ SeenA op al bl bh yes (x + 1) bl n :=
  ⟨fun ⟨q, h1, h2, h3, h4, h5⟩ => ⟨q, h1, h2, h3, by omega, h5⟩, fun ⟨q, h1, h2, h3, h4, h5⟩ => ⟨q, h1, h2, h3, by omega, h5⟩⟩
theorem seenB_row {op al bl bh : Int} {yes : Bool} {x y : Int} (hy : bh < y) (n : Int) : SeenB op al bl bh yes x y n ↔ SeenB op al bl bh yes (x + 1) bl n :=
  ⟨fun ⟨q, h1, h2, h3, h4, h5⟩ => ⟨q, h1, h2, h3, by omega, h5⟩, fun ⟨q, h1, h2, h3, h4, h5⟩ => ⟨q, h1, h2, h3, by omega, h5⟩⟩
theorem seenA_fst {op al ah bl bh : Int} {yes : Bool} {x : Int} (hx : x = ah + 1) (n : Int) : SeenA op al bl bh yes x bl n ↔ FstT op al ah bl bh yes n :=
  ⟨fun ⟨q, h1, h2, h3, h4, h5⟩ => ⟨q, h1, by omega, h2, h3, h5⟩, fun ⟨q, h1, h2, h3, h4, h5⟩ => ⟨q, h1, h3, h4, by omega, h5⟩⟩
theorem seenB_snd {op al ah bl bh : Int} {yes : Bool} {x : Int} (hx : x = ah + 1) (n : Int) : SeenB op al bl bh yes x bl n ↔ SndT op al ah bl bh yes n :=
  ⟨fun ⟨q, h1, h2, h3, h4, h5⟩ => ⟨q, h1, by omega, h2, h3, h5⟩, fun ⟨q, h1, h2, h3, h4, h5⟩ => ⟨q, h1, h3, h4, by omega, h5⟩⟩

/-- what SpanWhen is -/
structure WhenIs (op : Int) (a : Bool) (al ah : Int) (b : Bool) (bl bh : Int) (yes : Bool) (s t : Sp) : Prop where
  out : bothF a al ah b bl bh = false ∨ (op ≠ 5 ∧ op ≠ 6) → s = noSp ∧ t = noSp
  here : bothF a al ah b bl bh = true → (op = 5 ∨ op = 6) → Hull (FstT op al ah bl bh yes) s ∧ Hull (SndT op al ah bl bh yes) t

theorem WhenIs.uniq {op : Int} {a : Bool} {al ah : Int} {b : Bool} {bl bh : Int} {yes : Bool} {s t s' t' : Sp} (h : WhenIs op a al ah b bl bh yes s t) (k : WhenIs op a al ah b bl bh yes s' t') : s = s' ∧ t = t' := by
  by_cases e : bothF a al ah b bl bh = true ∧ (op = 5 ∨ op = 6)
  · exact ⟨(h.here e.1 e.2).1.uniq (k.here e.1 e.2).1, (h.here e.1 e.2).2.uniq (k.here e.1 e.2).2⟩
  · have o : bothF a al ah b bl bh = false ∨ (op ≠ 5 ∧ op ≠ 6) := by
      cases hb : bothF a al ah b bl bh
      · exact .inl rfl
      · right; simp [hb] at e; omega
    rw [(h.out o).1, (h.out o).2, (k.out o).1, (k.out o).2]; exact ⟨rfl, rfl⟩

theorem hull_mk {T : Int → Prop} {lo hi : Int} (all : ∀ n, T n → lo ≤ n ∧ n ≤ hi) (hl : lo ≤ hi → T lo) (hh : lo ≤ hi → T hi) : Hull T (mkF lo hi) := by
  unfold mkF
  split
  · rename_i e
    exact Hull.empty fun n hn => by have := all n hn; omega
  · rename_i e
    exact ⟨by simp, fun n hn => ⟨rfl, all n hn⟩, fun _ => hl (by omega), fun _ => hh (by omega)⟩

def notF (al ah bl bh : Int) : Sp := mkF (if bl = bh ∧ al = bl then al + 1 else al) (if bl = bh ∧ ah = bl then ah - 1 else ah)
def whenX (op al ah bl bh : Int) (yes : Bool) : Sp :=
  if op = 6 then (if yes = true then mkF (max al bl) (min ah bh) else notF al ah bl bh)
  else if yes = true then mkF al (min ah (bh - 1)) else mkF (max al bl) ah
def whenY (op al ah bl bh : Int) (yes : Bool) : Sp :=
  if op = 6 then (if yes = true then mkF (max al bl) (min ah bh) else notF bl bh al ah)
  else if yes = true then mkF (max bl (al + 1)) bh else mkF bl (min bh ah)

theorem raw5 {p q : Int} {yes : Bool} : rawF 5 p q = oneF yes ↔ (if yes = true then p < q else q ≤ p) := by
  cases yes <;> simp [rawF, oneF] <;> omega
theorem raw6 {p q : Int} {yes : Bool} : rawF 6 p q = oneF yes ↔ (if yes = true then p = q else p ≠ q) := by
  cases yes <;> simp [rawF, oneF]

theorem whenX_hull {op al ah bl bh : Int} {yes : Bool} (ho : op = 5 ∨ op = 6) (ha : al ≤ ah) (hb : bl ≤ bh) : Hull (FstT op al ah bl bh yes) (whenX op al ah bl bh yes) := by
  rcases ho with rfl | rfl
  · cases yes
    · simp only [whenX, show ¬ ((5 : Int) = 6) by omega, if_false, Bool.false_eq_true]
      refine hull_mk ?_ ?_ ?_
      · rintro n ⟨q, h1, h2, h3, h4, h5⟩; rw [raw5] at h5; simp at h5; omega
      · intro h; exact ⟨bl, by omega, by omega, by omega, by omega, raw5.2 (by simp; omega)⟩
      · intro h; exact ⟨bl, by omega, by omega, by omega, by omega, raw5.2 (by simp; omega)⟩
    · simp only [whenX, show ¬ ((5 : Int) = 6) by omega, if_false, if_true]
      refine hull_mk ?_ ?_ ?_
      · rintro n ⟨q, h1, h2, h3, h4, h5⟩; rw [raw5] at h5; simp at h5; omega
      · intro h; exact ⟨bh, by omega, by omega, by omega, by omega, raw5.2 (by simp; omega)⟩
      · intro h; exact ⟨bh, by omega, by omega, by omega, by omega, raw5.2 (by simp; omega)⟩
  · cases yes
    · simp only [whenX, if_false, if_true, Bool.false_eq_true, notF]
      refine hull_mk ?_ ?_ ?_
      · rintro n ⟨q, h1, h2, h3, h4, h5⟩; rw [raw6] at h5; simp at h5
        repeat' split
        all_goals omega
      · intro h
        by_cases e : bh = (if bl = bh ∧ al = bl then al + 1 else al)
        · refine ⟨bl, ?_, ?_, by omega, by omega, raw6.2 ?_⟩
          · split <;> omega
          · repeat' split at h
            all_goals (repeat' split)
            all_goals omega
          · simp only [Bool.false_eq_true, if_false]
            repeat' split at h
            all_goals (repeat' split)
            all_goals (repeat' split at e)
            all_goals omega
        · refine ⟨bh, ?_, ?_, by omega, by omega, raw6.2 ?_⟩
          · split <;> omega
          · repeat' split at h
            all_goals (repeat' split)
            all_goals omega
          · simp only [Bool.false_eq_true, if_false]
            exact fun h' => e h'.symm
      · intro h
        by_cases e : bl = (if bl = bh ∧ ah = bl then ah - 1 else ah)
        · refine ⟨bh, ?_, ?_, by omega, by omega, raw6.2 ?_⟩
          · repeat' split at h
            all_goals (repeat' split)
            all_goals omega
          · split <;> omega
          · simp only [Bool.false_eq_true, if_false]
            repeat' split at h
            all_goals (repeat' split)
            all_goals (repeat' split at e)
            all_goals omega
        · refine ⟨bl, ?_, ?_, by omega, by omega, raw6.2 ?_⟩
          · repeat' split at h
            all_goals (repeat' split)
            all_goals omega
          · split <;> omega
          · simp only [Bool.false_eq_true, if_false]
            exact fun h' => e h'.symm
    · simp only [whenX, if_true]
      refine hull_mk ?_ ?_ ?_
      · rintro n ⟨q, h1, h2, h3, h4, h5⟩; rw [raw6] at h5; simp at h5; omega
      · intro h; exact ⟨max al bl, by omega, by omega, by omega, by omega, raw6.2 (by simp)⟩
      · intro h; exact ⟨min ah bh, by omega, by omega, by omega, by omega, raw6.2 (by simp)⟩

/-- turned round -/
theorem snd6 {al ah bl bh : Int} {yes : Bool} (n : Int) : FstT 6 bl bh al ah yes n ↔ SndT 6 al ah bl bh yes n := by
  constructor
  · rintro ⟨q, h1, h2, h3, h4, h5⟩; exact ⟨q, h3, h4, h1, h2, by rw [raw6] at h5 ⊢; cases yes <;> simp at h5 ⊢ <;> omega⟩
  · rintro ⟨q, h1, h2, h3, h4, h5⟩; exact ⟨q, h3, h4, h1, h2, by rw [raw6] at h5 ⊢; cases yes <;> simp at h5 ⊢ <;> omega⟩

theorem whenY_hull {op al ah bl bh : Int} {yes : Bool} (ho : op = 5 ∨ op = 6) (ha : al ≤ ah) (hb : bl ≤ bh) : Hull (SndT op al ah bl bh yes) (whenY op al ah bl bh yes) := by
  rcases ho with rfl | rfl
  · cases yes
    · simp only [whenY, show ¬ ((5 : Int) = 6) by omega, if_false, Bool.false_eq_true]
      refine hull_mk ?_ ?_ ?_
      · rintro n ⟨q, h1, h2, h3, h4, h5⟩; rw [raw5] at h5; simp at h5; omega
      · intro h; exact ⟨ah, by omega, by omega, by omega, by omega, raw5.2 (by simp; omega)⟩
      · intro h; exact ⟨ah, by omega, by omega, by omega, by omega, raw5.2 (by simp; omega)⟩
    · simp only [whenY, show ¬ ((5 : Int) = 6) by omega, if_false, if_true]
      refine hull_mk ?_ ?_ ?_
      · rintro n ⟨q, h1, h2, h3, h4, h5⟩; rw [raw5] at h5; simp at h5; omega
      · intro h; exact ⟨al, by omega, by omega, by omega, by omega, raw5.2 (by simp; omega)⟩
      · intro h; exact ⟨al, by omega, by omega, by omega, by omega, raw5.2 (by simp; omega)⟩
  · have e : whenY 6 al ah bl bh yes = whenX 6 bl bh al ah yes := by
      simp only [whenX, whenY, if_true]
      rw [Int.max_comm al bl, Int.min_comm ah bh]
    rw [e]
    exact (whenX_hull (.inr rfl) hb ha).congr snd6

/-- where one is none both are -/
theorem when_both {op al ah bl bh : Int} {yes : Bool} {x y : Sp} (hx : Hull (FstT op al ah bl bh yes) x) (hy : Hull (SndT op al ah bl bh yes) y) : (x.1 = false ∨ y.1 = false) → x = noSp ∧ y = noSp := by
  have k1 : x.1 = true → y.1 = true := fun h => by
    obtain ⟨q, h1, h2, h3, h4, h5⟩ := hx.lo h
    exact (hy.all q ⟨_, h1, h2, h3, h4, h5⟩).1
  have k2 : y.1 = true → x.1 = true := fun h => by
    obtain ⟨q, h1, h2, h3, h4, h5⟩ := hy.lo h
    exact (hx.all q ⟨_, h1, h2, h3, h4, h5⟩).1
  intro h
  have e1 : x.1 = false := by
    rcases h with h | h
    · exact h
    · cases hv : x.1
      · rfl
      · rw [k1 hv] at h; simp at h
  have e2 : y.1 = false := by
    cases hv : y.1
    · rfl
    · rw [k2 hv] at e1; simp at e1
  exact ⟨hx.non e1, hy.non e2⟩

end Go.Proofs.Ytdomalclpjijaaa
