import Derived.Test.YtdomalclpjijaaaB4
import Derived.Test.YtdomalclpjijaaaB2
/-
  Plain mathematics of SpanWhen: the least spans of the first and of the second words of the pairs of which something is so, or not.
-/
namespace Go.Proofs.Ytdomalclpjijaaa

def oneF (yes : Bool) : Int := if yes = true then 1 else 0
/-- the first words of pairs, and the second ones -/
def FstT (op al ah bl bh : Int) (yes : Bool) (n : Int) : Prop := ∃ q, al ≤ n ∧ n ≤ ah ∧ bl ≤ q ∧ q ≤ bh ∧ rawF op n q = oneF yes
def SndT (op al ah bl bh : Int) (yes : Bool) (n : Int) : Prop := ∃ p, al ≤ p ∧ p ≤ ah ∧ bl ≤ n ∧ n ≤ bh ∧ rawF op p n = oneF yes
/-- the same of pairs ahead of x and y -/
def SeenA (op al bl bh : Int) (yes : Bool) (x y n : Int) : Prop := ∃ q, al ≤ n ∧ bl ≤ q ∧ q ≤ bh ∧ (n < x ∨ n = x ∧ q < y) ∧ rawF op n q = oneF yes
def SeenB (op al bl bh : Int) (yes : Bool) (x y n : Int) : Prop := ∃ p, al ≤ p ∧ bl ≤ n ∧ n ≤ bh ∧ (p < x ∨ p = x ∧ n < y) ∧ rawF op p n = oneF yes

theorem seenA_zero (op al bl bh : Int) (yes : Bool) (n : Int) : ¬ SeenA op al bl bh yes al bl n := by rintro ⟨q, h1, h2, h3, h4, _⟩; omega
theorem seenB_zero (op al bl bh : Int) (yes : Bool) (n : Int) : ¬ SeenB op al bl bh yes al bl n := by rintro ⟨q, h1, h2, h3, h4, _⟩; omega
theorem seenA_yes {op al bl bh : Int} {yes : Bool} {x y : Int} (hx : al ≤ x) (hy : bl ≤ y) (hy' : y ≤ bh) (hc : rawF op x y = oneF yes) (n : Int) :
    (SeenA op al bl bh yes x y n ∨ n = x) ↔ SeenA op al bl bh yes x (y + 1) n := by
  constructor
  · rintro (⟨q, h1, h2, h3, h4, h5⟩ | rfl)
    · exact ⟨q, h1, h2, h3, by omega, h5⟩
    · exact ⟨y, hx, hy, hy', by omega, hc⟩
  · rintro ⟨q, h1, h2, h3, h4, h5⟩
    by_cases e : n = x
    · right; exact e
    · left; exact ⟨q, h1, h2, h3, by omega, h5⟩
theorem seenB_yes {op al bl bh : Int} {yes : Bool} {x y : Int} (hx : al ≤ x) (hy : bl ≤ y) (hy' : y ≤ bh) (hc : rawF op x y = oneF yes) (n : Int) :
    (SeenB op al bl bh yes x y n ∨ n = y) ↔ SeenB op al bl bh yes x (y + 1) n := by
  constructor
  · rintro (⟨q, h1, h2, h3, h4, h5⟩ | rfl)
    · exact ⟨q, h1, h2, h3, by omega, h5⟩
    · exact ⟨x, hx, hy, hy', by omega, hc⟩
  · rintro ⟨q, h1, h2, h3, h4, h5⟩
    by_cases e : n = y
    · right; exact e
    · left; exact ⟨q, h1, h2, h3, by omega, h5⟩
theorem seenA_no {op al bl bh : Int} {yes : Bool} {x y : Int} (hc : rawF op x y ≠ oneF yes) (n : Int) :
    SeenA op al bl bh yes x y n ↔ SeenA op al bl bh yes x (y + 1) n := by
  constructor
  · rintro ⟨q, h1, h2, h3, h4, h5⟩
    exact ⟨q, h1, h2, h3, by omega, h5⟩
  · rintro ⟨q, h1, h2, h3, h4, h5⟩
    by_cases e : n = x ∧ q = y
    · rw [e.1, e.2] at h5; exact absurd h5 hc
    · exact ⟨q, h1, h2, h3, by omega, h5⟩
theorem seenB_no {op al bl bh : Int} {yes : Bool} {x y : Int} (hc : rawF op x y ≠ oneF yes) (n : Int) :
    SeenB op al bl bh yes x y n ↔ SeenB op al bl bh yes x (y + 1) n := by
  constructor
  · rintro ⟨q, h1, h2, h3, h4, h5⟩
    exact ⟨q, h1, h2, h3, by omega, h5⟩
  · rintro ⟨q, h1, h2, h3, h4, h5⟩
    by_cases e : q = x ∧ n = y
    · rw [e.1, e.2] at h5; exact absurd h5 hc
    · exact ⟨q, h1, h2, h3, by omega, h5⟩
theorem seenA_row {op al bl bh : Int} {yes : Bool} {x y : Int} (hy : bh < y) (n : Int) : SeenA op al bl bh yes x y n ↔ SeenA op al bl bh yes (x + 1) bl n :=
  ⟨fun ⟨q, h1, h2, h3, h4, h5⟩ => ⟨q, h1, h2, h3, by omega, h5⟩, fun ⟨q, h1, h2, h3, h4, h5⟩ => ⟨q, h1, h2, h3, by omega, h5⟩⟩
theorem seenB_row {op al bl bh : Int} {yes : Bool} {x y : Int} (hy : bh < y) (n : Int) : SeenB op al bl bh yes x y n ↔ SeenB op al bl bh yes (x + 1) bl n :=
  ⟨fun ⟨q, h1, h2, h3, h4, h5⟩ => ⟨q, h1, h2, h3, by omega, h5⟩, fun ⟨q, h1, h2, h3, h4, h5⟩ => ⟨q, h1, h2, h3, by omega, h5⟩⟩
theorem seenA_fst {op al ah bl bh : Int} {yes : Bool} {x : Int} (hx : x = ah + 1) (n : Int) : SeenA op al bl bh yes x bl n ↔ FstT op al ah bl bh yes n :=
  ⟨fun ⟨q, h1, h2, h3, h4, h5⟩ => ⟨q, h1, by omega, h2, h3, h5⟩, fun ⟨q, h1, h2, h3, h4, h5⟩ => ⟨q, h1, h3, h4, by omega, h5⟩⟩
theorem seenB_snd {op al ah bl bh : Int} {yes : Bool} {x : Int} (hx : x = ah + 1) (n : Int) : SeenB op al bl bh yes x bl n ↔ SndT op al ah bl bh yes n :=
  ⟨fun ⟨q, h1, h2, h3, h4, h5⟩ => ⟨q, h1, by omega, h2, h3, h5⟩, fun ⟨q, h1, h2, h3, h4, h5⟩ => ⟨q, h1, h3, h4, by omega, h5⟩⟩

/-- what SpanWhen is -/
structure WhenIs (op : Int) (a : Bool) (al ah : Int) (b : Bool) (bl bh : Int) (yes : Bool) (s t : Sp) : Prop where
  out : bothF a al ah b bl bh = false ∨ (op ≠ 5 ∧ op ≠ 6) → s = noSp ∧ t = noSp
  here : bothF a al ah b bl bh = true → (op = 5 ∨ op = 6) → Hull (FstT op al ah bl bh yes) s ∧ Hull (SndT op al ah bl bh yes) t

theorem WhenIs.uniq {op : Int} {a : Bool} {al ah : Int} {b : Bool} {bl bh : Int} {yes : Bool} {s t s' t' : Sp} (h : WhenIs op a al ah b bl bh yes s t) (k : WhenIs op a al ah b bl bh yes s' t') : s = s' ∧ t = t' := by
  by_cases e : bothF a al ah b bl bh = true ∧ (op = 5 ∨ op = 6)
  · exact ⟨(h.here e.1 e.2).1.uniq (k.here e.1 e.2).1, (h.here e.1 e.2).2.uniq (k.here e.1 e.2).2⟩
  · have o : bothF a al ah b bl bh = false ∨ (op ≠ 5 ∧ op ≠ 6) := by
      cases hb : bothF a al ah b bl bh
      · exact .inl rfl
      · right; simp [hb] at e; omega
    rw [(h.out o).1, (h.out o).2, (k.out o).1, (k.out o).2]; exact ⟨rfl, rfl⟩

theorem hull_mk {T : Int → Prop} {lo hi : Int} (all : ∀ n, T n → lo ≤ n ∧ n ≤ hi) (hl : lo ≤ hi → T lo) (hh : lo ≤ hi → T hi) : Hull T (mkF lo hi) := by
  unfold mkF
  split
  · rename_i e
    exact Hull.empty fun n hn => by have := all n hn; omega
  · rename_i e
    exact ⟨by simp, fun n hn => ⟨rfl, all n hn⟩, fun _ => hl (by omega), fun _ => hh (by omega)⟩

def notF (al ah bl bh : Int) : Sp := mkF (if bl = bh ∧ al = bl then al + 1 else al) (if bl = bh ∧ ah = bl then ah - 1 else ah)
def whenX (op al ah bl bh : Int) (yes : Bool) : Sp :=
  if op = 6 then (if yes = true then mkF (max al bl) (min ah bh) else notF al ah bl bh)
  else if yes = true then mkF al (min ah (bh - 1)) else mkF (max al bl) ah
def whenY (op al ah bl bh : Int) (yes : Bool) : Sp :=
  if op = 6 then (if yes = true then mkF (max al bl) (min ah bh) else notF bl bh al ah)
  else if yes = true then mkF (max bl (al + 1)) bh else mkF bl (min bh ah)

theorem raw5 {p q : Int} {yes : Bool} : rawF 5 p q = oneF yes ↔ (if yes = true then p < q else q ≤ p) := by
  cases yes <;> simp [rawF, oneF] <;> omega
theorem raw6 {p q : Int} {yes : Bool} : rawF 6 p q = oneF yes ↔ (if yes = true then p = q else p ≠ q) := by
  cases yes <;> simp [rawF, oneF]

theorem whenX_hull {op al ah bl bh : Int} {yes : Bool} (ho : op = 5 ∨ op = 6) (ha : al ≤ ah) (hb : bl ≤ bh) : Hull (FstT op al ah bl bh yes) (whenX op al ah bl bh yes) := by
  rcases ho with rfl | rfl
  · cases yes
    · simp only [whenX, show ¬ ((5 : Int) = 6) by omega, if_false, Bool.false_eq_true]
      refine hull_mk ?_ ?_ ?_
      · rintro n ⟨q, h1, h2, h3, h4, h5⟩; rw [raw5] at h5; simp at h5; omega
      · intro h; exact ⟨bl, by omega, by omega, by omega, by omega, raw5.2 (by simp; omega)⟩
      · intro h; exact ⟨bl, by omega, by omega, by omega, by omega, raw5.2 (by simp; omega)⟩
    · simp only [whenX, show ¬ ((5 : Int) = 6) by omega, if_false, if_true]
      refine hull_mk ?_ ?_ ?_
      · rintro n ⟨q, h1, h2, h3, h4, h5⟩; rw [raw5] at h5; simp at h5; omega
      · intro h; exact ⟨bh, by omega, by omega, by omega, by omega, raw5.2 (by simp; omega)⟩
      · intro h; exact ⟨bh, by omega, by omega, by omega, by omega, raw5.2 (by simp; omega)⟩
  · cases yes
    · simp only [whenX, if_false, if_true, Bool.false_eq_true, notF]
      refine hull_mk ?_ ?_ ?_
      · rintro n ⟨q, h1, h2, h3, h4, h5⟩; rw [raw6] at h5; simp at h5
        repeat' split
        all_goals omega
      · intro h
        by_cases e : bh = (if bl = bh ∧ al = bl then al + 1 else al)
        · refine ⟨bl, ?_, ?_, by omega, by omega, raw6.2 ?_⟩
          · split <;> omega
          · repeat' split at h
            all_goals (repeat' split)
            all_goals omega
          · simp only [Bool.false_eq_true, if_false]
            repeat' split at h
            all_goals (repeat' split)
            all_goals (repeat' split at e)
            all_goals omega
        · refine ⟨bh, ?_, ?_, by omega, by omega, raw6.2 ?_⟩
          · split <;> omega
          · repeat' split at h
            all_goals (repeat' split)
            all_goals omega
          · simp only [Bool.false_eq_true, if_false]
            exact fun h' => e h'.symm
      · intro h
        by_cases e : bl = (if bl = bh ∧ ah = bl then ah - 1 else ah)
        · refine ⟨bh, ?_, ?_, by omega, by omega, raw6.2 ?_⟩
          · repeat' split at h
            all_goals (repeat' split)
            all_goals omega
          · split <;> omega
          · simp only [Bool.false_eq_true, if_false]
            repeat' split at h
            all_goals (repeat' split)
            all_goals (repeat' split at e)
            all_goals omega
        · refine ⟨bl, ?_, ?_, by omega, by omega, raw6.2 ?_⟩
          · repeat' split at h
            all_goals (repeat' split)
            all_goals omega
          · split <;> omega
          · simp only [Bool.false_eq_true, if_false]
            exact fun h' => e h'.symm
    · simp only [whenX, if_true]
      refine hull_mk ?_ ?_ ?_
      · rintro n ⟨q, h1, h2, h3, h4, h5⟩; rw [raw6] at h5; simp at h5; omega
      · intro h; exact ⟨max al bl, by omega, by omega, by omega, by omega, raw6.2 (by simp)⟩
      · intro h; exact ⟨min ah bh, by omega, by omega, by omega, by omega, raw6.2 (by simp)⟩

/-- turned round -/
theorem snd6 {al ah bl bh : Int} {yes : Bool} (n : Int) : FstT 6 bl bh al ah yes n ↔ SndT 6 al ah bl bh yes n := by
  constructor
  · rintro ⟨q, h1, h2, h3, h4, h5⟩; exact ⟨q, h3, h4, h1, h2, by rw [raw6] at h5 ⊢; cases yes <;> simp at h5 ⊢ <;> omega⟩
  · rintro ⟨q, h1, h2, h3, h4, h5⟩; exact ⟨q, h3, h4, h1, h2, by rw [raw6] at h5 ⊢; cases yes <;> simp at h5 ⊢ <;> omega⟩

theorem whenY_hull {op al ah bl bh : Int} {yes : Bool} (ho : op = 5 ∨ op = 6) (ha : al ≤ ah) (hb : bl ≤ bh) : Hull (SndT op al ah bl bh yes) (whenY op al ah bl bh yes) := by
  rcases ho with rfl | rfl
  · cases yes
    · simp only [whenY, show ¬ ((5 : Int) = 6) by omega, if_false, Bool.false_eq_true]
      refine hull_mk ?_ ?_ ?_
      · rintro n ⟨q, h1, h2, h3, h4, h5⟩; rw [raw5] at h5; simp at h5; omega
      · intro h; exact ⟨ah, by omega, by omega, by omega, by omega, raw5.2 (by simp; omega)⟩
      · intro h; exact ⟨ah, by omega, by omega, by omega, by omega, raw5.2 (by simp; omega)⟩
    · simp only [whenY, show ¬ ((5 : Int) = 6) by omega, if_false, if_true]
      refine hull_mk ?_ ?_ ?_
      · rintro n ⟨q, h1, h2, h3, h4, h5⟩; rw [raw5] at h5; simp at h5; omega
      · intro h; exact ⟨al, by omega, by omega, by omega, by omega, raw5.2 (by simp; omega)⟩
      · intro h; exact ⟨al, by omega, by omega, by omega, by omega, raw5.2 (by simp; omega)⟩
  · have e : whenY 6 al ah bl bh yes = whenX 6 bl bh al ah yes := by
      simp only [whenX, whenY, if_true]
      rw [Int.max_comm al bl, Int.min_comm ah bh]
    rw [e]
    exact (whenX_hull (.inr rfl) hb ha).congr snd6

/-- where one is none both are -/
theorem when_both {op al ah bl bh : Int} {yes : Bool} {x y : Sp} (hx : Hull (FstT op al ah bl bh yes) x) (hy : Hull (SndT op al ah bl bh yes) y) : (x.1 = false ∨ y.1 = false) → x = noSp ∧ y = noSp := by
  have k1 : x.1 = true → y.1 = true := fun h => by
    obtain ⟨q, h1, h2, h3, h4, h5⟩ := hx.lo h
    exact (hy.all q ⟨_, h1, h2, h3, h4, h5⟩).1
  have k2 : y.1 = true → x.1 = true := fun h => by
    obtain ⟨q, h1, h2, h3, h4, h5⟩ := hy.lo h
    exact (hx.all q ⟨_, h1, h2, h3, h4, h5⟩).1
  intro h
  have e1 : x.1 = false := by
    rcases h with h | h
    · exact h
    · cases hv : x.1
      · rfl
      · rw [k1 hv] at h; simp at h
  have e2 : y.1 = false := by
    cases hv : y.1
    · rfl
    · rw [k2 hv] at e1; simp at e1
  exact ⟨hx.non e1, hy.non e2⟩

end Go.Proofs.Ytdomalclpjijaaa

/-
  The contracts of SpanIn and havePairs, the program's and the model's.
-/
namespace Go.Proofs.Ytdomalclpjijaaa
open Go.RowKit
set_option linter.unusedVariables false

set_option maxHeartbeats 600000 in
theorem in_spec (a : Bool) (al ah : Int) (b : Bool) (bl bh : Int) (w : World) : Calls Try.prog 51 #[.agg #[.bool a, .int .i64 al, .int .i64 ah], .agg #[.bool b, .int .i64 bl, .int .i64 bh]] w fun e w' => e = .returned (.bool (inF a al ah b bl bh)) ∧ Below w.heap.size w w' := by
  unfold inF
  cases ho1 : okF a al ah
  · go_enter Try.func51, Try.ntmps51
    go_wp2_with fail
    refine (ok_spec _ _ _ _ ).mono ?_
    rintro e w1 ⟨rfl, hb1⟩
    have hz1 : w.heap.size + 2 ≤ w1.heap.size := by have := hb1.size; first | omega | (simp at this; omega)
    obtain ⟨p1x0, q1x0, r1x0, f1x0, g1x0, h1x0⟩ := cell3 hb1 (w.heap.size) (by go_size)
    obtain ⟨p1x1, q1x1, r1x1, f1x1, g1x1, h1x1⟩ := cell3 hb1 (w.heap.size + 1) (by go_size)
    simp only [ho1]
    go_wp2
    go_ret
    exact ⟨ret_bool (by simp), (((Below.refl _ _).alloc (Nat.le_refl _) _).alloc (by go_size) _).trans (hb1.mono (by go_size))⟩
  · cases ho2 : okF b bl bh
    · go_enter Try.func51, Try.ntmps51
      go_wp2_with fail
      refine (ok_spec _ _ _ _ ).mono ?_
      rintro e w1 ⟨rfl, hb1⟩
      have hz1 : w.heap.size + 2 ≤ w1.heap.size := by have := hb1.size; first | omega | (simp at this; omega)
      obtain ⟨p1x0, q1x0, r1x0, f1x0, g1x0, h1x0⟩ := cell3 hb1 (w.heap.size) (by go_size)
      obtain ⟨p1x1, q1x1, r1x1, f1x1, g1x1, h1x1⟩ := cell3 hb1 (w.heap.size + 1) (by go_size)
      simp only [ho1]
      go_wp2_with fail
      refine (ok_spec _ _ _ _ ).mono ?_
      rintro e w2 ⟨rfl, hb2⟩
      have hz2 : w.heap.size + 2 ≤ w2.heap.size := by have := hb2.size; first | omega | (simp at this; omega)
      obtain ⟨p2x0, q2x0, r2x0, f2x0, g2x0, h2x0⟩ := cell3 hb2 (w.heap.size) (by go_size)
      obtain ⟨p2x1, q2x1, r2x1, f2x1, g2x1, h2x1⟩ := cell3 hb2 (w.heap.size + 1) (by go_size)
      simp only [ho2]
      go_wp2
      go_ret
      exact ⟨ret_bool (by simp), ((((Below.refl _ _).alloc (Nat.le_refl _) _).alloc (by go_size) _).trans (hb1.mono (by go_size))).trans (hb2.mono (by go_size))⟩
    · cases a
      · go_enter Try.func51, Try.ntmps51
        go_wp2_with fail
        refine (ok_spec _ _ _ _ ).mono ?_
        rintro e w1 ⟨rfl, hb1⟩
        have hz1 : w.heap.size + 2 ≤ w1.heap.size := by have := hb1.size; first | omega | (simp at this; omega)
        obtain ⟨p1x0, q1x0, r1x0, f1x0, g1x0, h1x0⟩ := cell3 hb1 (w.heap.size) (by go_size)
        obtain ⟨p1x1, q1x1, r1x1, f1x1, g1x1, h1x1⟩ := cell3 hb1 (w.heap.size + 1) (by go_size)
        simp only [ho1]
        go_wp2_with fail
        refine (ok_spec _ _ _ _ ).mono ?_
        rintro e w2 ⟨rfl, hb2⟩
        have hz2 : w.heap.size + 2 ≤ w2.heap.size := by have := hb2.size; first | omega | (simp at this; omega)
        obtain ⟨p2x0, q2x0, r2x0, f2x0, g2x0, h2x0⟩ := cell3 hb2 (w.heap.size) (by go_size)
        obtain ⟨p2x1, q2x1, r2x1, f2x1, g2x1, h2x1⟩ := cell3 hb2 (w.heap.size + 1) (by go_size)
        simp only [ho2]
        go_wp2
        go_ret
        exact ⟨ret_bool (by simp), ((((Below.refl _ _).alloc (Nat.le_refl _) _).alloc (by go_size) _).trans (hb1.mono (by go_size))).trans (hb2.mono (by go_size))⟩
      · cases b
        · go_enter Try.func51, Try.ntmps51
          go_wp2_with fail
          refine (ok_spec _ _ _ _ ).mono ?_
          rintro e w1 ⟨rfl, hb1⟩
          have hz1 : w.heap.size + 2 ≤ w1.heap.size := by have := hb1.size; first | omega | (simp at this; omega)
          obtain ⟨p1x0, q1x0, r1x0, f1x0, g1x0, h1x0⟩ := cell3 hb1 (w.heap.size) (by go_size)
          obtain ⟨p1x1, q1x1, r1x1, f1x1, g1x1, h1x1⟩ := cell3 hb1 (w.heap.size + 1) (by go_size)
          simp only [ho1]
          go_wp2_with fail
          refine (ok_spec _ _ _ _ ).mono ?_
          rintro e w2 ⟨rfl, hb2⟩
          have hz2 : w.heap.size + 2 ≤ w2.heap.size := by have := hb2.size; first | omega | (simp at this; omega)
          obtain ⟨p2x0, q2x0, r2x0, f2x0, g2x0, h2x0⟩ := cell3 hb2 (w.heap.size) (by go_size)
          obtain ⟨p2x1, q2x1, r2x1, f2x1, g2x1, h2x1⟩ := cell3 hb2 (w.heap.size + 1) (by go_size)
          simp only [ho2]
          go_wp2
          go_ret
          exact ⟨ret_bool (by simp), ((((Below.refl _ _).alloc (Nat.le_refl _) _).alloc (by go_size) _).trans (hb1.mono (by go_size))).trans (hb2.mono (by go_size))⟩
        · by_cases h1 : bl ≤ al
          · go_enter Try.func51, Try.ntmps51
            go_wp2_with fail
            refine (ok_spec _ _ _ _ ).mono ?_
            rintro e w1 ⟨rfl, hb1⟩
            have hz1 : w.heap.size + 2 ≤ w1.heap.size := by have := hb1.size; first | omega | (simp at this; omega)
            obtain ⟨p1x0, q1x0, r1x0, f1x0, g1x0, h1x0⟩ := cell3 hb1 (w.heap.size) (by go_size)
            obtain ⟨p1x1, q1x1, r1x1, f1x1, g1x1, h1x1⟩ := cell3 hb1 (w.heap.size + 1) (by go_size)
            simp only [ho1]
            go_wp2_with fail
            refine (ok_spec _ _ _ _ ).mono ?_
            rintro e w2 ⟨rfl, hb2⟩
            have hz2 : w.heap.size + 2 ≤ w2.heap.size := by have := hb2.size; first | omega | (simp at this; omega)
            obtain ⟨p2x0, q2x0, r2x0, f2x0, g2x0, h2x0⟩ := cell3 hb2 (w.heap.size) (by go_size)
            obtain ⟨p2x1, q2x1, r2x1, f2x1, g2x1, h2x1⟩ := cell3 hb2 (w.heap.size + 1) (by go_size)
            simp only [ho2]
            go_wp2
            go_ret
            exact ⟨ret_bool (by simp [h1]), ((((Below.refl _ _).alloc (Nat.le_refl _) _).alloc (by go_size) _).trans (hb1.mono (by go_size))).trans (hb2.mono (by go_size))⟩
          · go_enter Try.func51, Try.ntmps51
            go_wp2_with fail
            refine (ok_spec _ _ _ _ ).mono ?_
            rintro e w1 ⟨rfl, hb1⟩
            have hz1 : w.heap.size + 2 ≤ w1.heap.size := by have := hb1.size; first | omega | (simp at this; omega)
            obtain ⟨p1x0, q1x0, r1x0, f1x0, g1x0, h1x0⟩ := cell3 hb1 (w.heap.size) (by go_size)
            obtain ⟨p1x1, q1x1, r1x1, f1x1, g1x1, h1x1⟩ := cell3 hb1 (w.heap.size + 1) (by go_size)
            simp only [ho1]
            go_wp2_with fail
            refine (ok_spec _ _ _ _ ).mono ?_
            rintro e w2 ⟨rfl, hb2⟩
            have hz2 : w.heap.size + 2 ≤ w2.heap.size := by have := hb2.size; first | omega | (simp at this; omega)
            obtain ⟨p2x0, q2x0, r2x0, f2x0, g2x0, h2x0⟩ := cell3 hb2 (w.heap.size) (by go_size)
            obtain ⟨p2x1, q2x1, r2x1, f2x1, g2x1, h2x1⟩ := cell3 hb2 (w.heap.size + 1) (by go_size)
            simp only [ho2]
            go_wp2
            go_ret
            exact ⟨ret_bool (by simp; omega), ((((Below.refl _ _).alloc (Nat.le_refl _) _).alloc (by go_size) _).trans (hb1.mono (by go_size))).trans (hb2.mono (by go_size))⟩

set_option maxHeartbeats 600000 in
theorem in_impl (a : Bool) (al ah : Int) (b : Bool) (bl bh : Int) (w : World) : Calls Try.prog 50 #[.agg #[.bool a, .int .i64 al, .int .i64 ah], .agg #[.bool b, .int .i64 bl, .int .i64 bh]] w fun e w' => e = .returned (.bool (inF a al ah b bl bh)) ∧ Below w.heap.size w w' := by
  unfold inF
  cases ho1 : okF a al ah
  · go_enter Try.func50, Try.ntmps50
    go_wp2_with fail
    refine (ok_impl _ _ _ _ ).mono ?_
    rintro e w1 ⟨rfl, hb1⟩
    have hz1 : w.heap.size + 2 ≤ w1.heap.size := by have := hb1.size; first | omega | (simp at this; omega)
    obtain ⟨p1x0, q1x0, r1x0, f1x0, g1x0, h1x0⟩ := cell3 hb1 (w.heap.size) (by go_size)
    obtain ⟨p1x1, q1x1, r1x1, f1x1, g1x1, h1x1⟩ := cell3 hb1 (w.heap.size + 1) (by go_size)
    simp only [ho1]
    go_wp2
    go_ret
    exact ⟨ret_bool (by simp), (((Below.refl _ _).alloc (Nat.le_refl _) _).alloc (by go_size) _).trans (hb1.mono (by go_size))⟩
  · cases ho2 : okF b bl bh
    · go_enter Try.func50, Try.ntmps50
      go_wp2_with fail
      refine (ok_impl _ _ _ _ ).mono ?_
      rintro e w1 ⟨rfl, hb1⟩
      have hz1 : w.heap.size + 2 ≤ w1.heap.size := by have := hb1.size; first | omega | (simp at this; omega)
      obtain ⟨p1x0, q1x0, r1x0, f1x0, g1x0, h1x0⟩ := cell3 hb1 (w.heap.size) (by go_size)
      obtain ⟨p1x1, q1x1, r1x1, f1x1, g1x1, h1x1⟩ := cell3 hb1 (w.heap.size + 1) (by go_size)
      simp only [ho1]
      go_wp2_with fail
      refine (ok_impl _ _ _ _ ).mono ?_
      rintro e w2 ⟨rfl, hb2⟩
      have hz2 : w.heap.size + 2 ≤ w2.heap.size := by have := hb2.size; first | omega | (simp at this; omega)
      obtain ⟨p2x0, q2x0, r2x0, f2x0, g2x0, h2x0⟩ := cell3 hb2 (w.heap.size) (by go_size)
      obtain ⟨p2x1, q2x1, r2x1, f2x1, g2x1, h2x1⟩ := cell3 hb2 (w.heap.size + 1) (by go_size)
      simp only [ho2]
      go_wp2
      go_ret
      exact ⟨ret_bool (by simp), ((((Below.refl _ _).alloc (Nat.le_refl _) _).alloc (by go_size) _).trans (hb1.mono (by go_size))).trans (hb2.mono (by go_size))⟩
    · cases a
      · go_enter Try.func50, Try.ntmps50
        go_wp2_with fail
        refine (ok_impl _ _ _ _ ).mono ?_
        rintro e w1 ⟨rfl, hb1⟩
        have hz1 : w.heap.size + 2 ≤ w1.heap.size := by have := hb1.size; first | omega | (simp at this; omega)
        obtain ⟨p1x0, q1x0, r1x0, f1x0, g1x0, h1x0⟩ := cell3 hb1 (w.heap.size) (by go_size)
        obtain ⟨p1x1, q1x1, r1x1, f1x1, g1x1, h1x1⟩ := cell3 hb1 (w.heap.size + 1) (by go_size)
        simp only [ho1]
        go_wp2_with fail
        refine (ok_impl _ _ _ _ ).mono ?_
        rintro e w2 ⟨rfl, hb2⟩
        have hz2 : w.heap.size + 2 ≤ w2.heap.size := by have := hb2.size; first | omega | (simp at this; omega)
        obtain ⟨p2x0, q2x0, r2x0, f2x0, g2x0, h2x0⟩ := cell3 hb2 (w.heap.size) (by go_size)
        obtain ⟨p2x1, q2x1, r2x1, f2x1, g2x1, h2x1⟩ := cell3 hb2 (w.heap.size + 1) (by go_size)
        simp only [ho2]
        go_wp2
        go_ret
        exact ⟨ret_bool (by simp), ((((Below.refl _ _).alloc (Nat.le_refl _) _).alloc (by go_size) _).trans (hb1.mono (by go_size))).trans (hb2.mono (by go_size))⟩
      · cases b
        · go_enter Try.func50, Try.ntmps50
          go_wp2_with fail
          refine (ok_impl _ _ _ _ ).mono ?_
          rintro e w1 ⟨rfl, hb1⟩
          have hz1 : w.heap.size + 2 ≤ w1.heap.size := by have := hb1.size; first | omega | (simp at this; omega)
          obtain ⟨p1x0, q1x0, r1x0, f1x0, g1x0, h1x0⟩ := cell3 hb1 (w.heap.size) (by go_size)
          obtain ⟨p1x1, q1x1, r1x1, f1x1, g1x1, h1x1⟩ := cell3 hb1 (w.heap.size + 1) (by go_size)
          simp only [ho1]
          go_wp2_with fail
          refine (ok_impl _ _ _ _ ).mono ?_
          rintro e w2 ⟨rfl, hb2⟩
          have hz2 : w.heap.size + 2 ≤ w2.heap.size := by have := hb2.size; first | omega | (simp at this; omega)
          obtain ⟨p2x0, q2x0, r2x0, f2x0, g2x0, h2x0⟩ := cell3 hb2 (w.heap.size) (by go_size)
          obtain ⟨p2x1, q2x1, r2x1, f2x1, g2x1, h2x1⟩ := cell3 hb2 (w.heap.size + 1) (by go_size)
          simp only [ho2]
          go_wp2
          go_ret
          exact ⟨ret_bool (by simp), ((((Below.refl _ _).alloc (Nat.le_refl _) _).alloc (by go_size) _).trans (hb1.mono (by go_size))).trans (hb2.mono (by go_size))⟩
        · by_cases h1 : bl ≤ al
          · go_enter Try.func50, Try.ntmps50
            go_wp2_with fail
            refine (ok_impl _ _ _ _ ).mono ?_
            rintro e w1 ⟨rfl, hb1⟩
            have hz1 : w.heap.size + 2 ≤ w1.heap.size := by have := hb1.size; first | omega | (simp at this; omega)
            obtain ⟨p1x0, q1x0, r1x0, f1x0, g1x0, h1x0⟩ := cell3 hb1 (w.heap.size) (by go_size)
            obtain ⟨p1x1, q1x1, r1x1, f1x1, g1x1, h1x1⟩ := cell3 hb1 (w.heap.size + 1) (by go_size)
            simp only [ho1]
            go_wp2_with fail
            refine (ok_impl _ _ _ _ ).mono ?_
            rintro e w2 ⟨rfl, hb2⟩
            have hz2 : w.heap.size + 2 ≤ w2.heap.size := by have := hb2.size; first | omega | (simp at this; omega)
            obtain ⟨p2x0, q2x0, r2x0, f2x0, g2x0, h2x0⟩ := cell3 hb2 (w.heap.size) (by go_size)
            obtain ⟨p2x1, q2x1, r2x1, f2x1, g2x1, h2x1⟩ := cell3 hb2 (w.heap.size + 1) (by go_size)
            simp only [ho2]
            go_wp2
            go_ret
            exact ⟨ret_bool (by simp [h1]), ((((Below.refl _ _).alloc (Nat.le_refl _) _).alloc (by go_size) _).trans (hb1.mono (by go_size))).trans (hb2.mono (by go_size))⟩
          · go_enter Try.func50, Try.ntmps50
            go_wp2_with fail
            refine (ok_impl _ _ _ _ ).mono ?_
            rintro e w1 ⟨rfl, hb1⟩
            have hz1 : w.heap.size + 2 ≤ w1.heap.size := by have := hb1.size; first | omega | (simp at this; omega)
            obtain ⟨p1x0, q1x0, r1x0, f1x0, g1x0, h1x0⟩ := cell3 hb1 (w.heap.size) (by go_size)
            obtain ⟨p1x1, q1x1, r1x1, f1x1, g1x1, h1x1⟩ := cell3 hb1 (w.heap.size + 1) (by go_size)
            simp only [ho1]
            go_wp2_with fail
            refine (ok_impl _ _ _ _ ).mono ?_
            rintro e w2 ⟨rfl, hb2⟩
            have hz2 : w.heap.size + 2 ≤ w2.heap.size := by have := hb2.size; first | omega | (simp at this; omega)
            obtain ⟨p2x0, q2x0, r2x0, f2x0, g2x0, h2x0⟩ := cell3 hb2 (w.heap.size) (by go_size)
            obtain ⟨p2x1, q2x1, r2x1, f2x1, g2x1, h2x1⟩ := cell3 hb2 (w.heap.size + 1) (by go_size)
            simp only [ho2]
            go_wp2
            go_ret
            exact ⟨ret_bool (by simp; omega), ((((Below.refl _ _).alloc (Nat.le_refl _) _).alloc (by go_size) _).trans (hb1.mono (by go_size))).trans (hb2.mono (by go_size))⟩

set_option maxHeartbeats 600000 in
theorem both_impl (a : Bool) (al ah : Int) (b : Bool) (bl bh : Int) (w : World) : Calls Try.prog 59 #[.agg #[.bool a, .int .i64 al, .int .i64 ah], .agg #[.bool b, .int .i64 bl, .int .i64 bh]] w fun e w' => e = .returned (.bool (bothF a al ah b bl bh)) ∧ Below w.heap.size w w' := by
  unfold bothF
  cases ho1 : okF a al ah
  · go_enter Try.func59, Try.ntmps59
    go_wp2_with fail
    refine (ok_impl _ _ _ _ ).mono ?_
    rintro e w1 ⟨rfl, hb1⟩
    have hz1 : w.heap.size + 2 ≤ w1.heap.size := by have := hb1.size; first | omega | (simp at this; omega)
    obtain ⟨p1x0, q1x0, r1x0, f1x0, g1x0, h1x0⟩ := cell3 hb1 (w.heap.size) (by go_size)
    obtain ⟨p1x1, q1x1, r1x1, f1x1, g1x1, h1x1⟩ := cell3 hb1 (w.heap.size + 1) (by go_size)
    simp only [ho1]
    go_wp2
    go_ret
    exact ⟨ret_bool (by simp), (((Below.refl _ _).alloc (Nat.le_refl _) _).alloc (by go_size) _).trans (hb1.mono (by go_size))⟩
  · cases ho2 : okF b bl bh
    · go_enter Try.func59, Try.ntmps59
      go_wp2_with fail
      refine (ok_impl _ _ _ _ ).mono ?_
      rintro e w1 ⟨rfl, hb1⟩
      have hz1 : w.heap.size + 2 ≤ w1.heap.size := by have := hb1.size; first | omega | (simp at this; omega)
      obtain ⟨p1x0, q1x0, r1x0, f1x0, g1x0, h1x0⟩ := cell3 hb1 (w.heap.size) (by go_size)
      obtain ⟨p1x1, q1x1, r1x1, f1x1, g1x1, h1x1⟩ := cell3 hb1 (w.heap.size + 1) (by go_size)
      simp only [ho1]
      go_wp2_with fail
      refine (ok_impl _ _ _ _ ).mono ?_
      rintro e w2 ⟨rfl, hb2⟩
      have hz2 : w.heap.size + 2 ≤ w2.heap.size := by have := hb2.size; first | omega | (simp at this; omega)
      obtain ⟨p2x0, q2x0, r2x0, f2x0, g2x0, h2x0⟩ := cell3 hb2 (w.heap.size) (by go_size)
      obtain ⟨p2x1, q2x1, r2x1, f2x1, g2x1, h2x1⟩ := cell3 hb2 (w.heap.size + 1) (by go_size)
      simp only [ho2]
      go_wp2
      go_ret
      exact ⟨ret_bool (by simp), ((((Below.refl _ _).alloc (Nat.le_refl _) _).alloc (by go_size) _).trans (hb1.mono (by go_size))).trans (hb2.mono (by go_size))⟩
    · cases a
      · go_enter Try.func59, Try.ntmps59
        go_wp2_with fail
        refine (ok_impl _ _ _ _ ).mono ?_
        rintro e w1 ⟨rfl, hb1⟩
        have hz1 : w.heap.size + 2 ≤ w1.heap.size := by have := hb1.size; first | omega | (simp at this; omega)
        obtain ⟨p1x0, q1x0, r1x0, f1x0, g1x0, h1x0⟩ := cell3 hb1 (w.heap.size) (by go_size)
        obtain ⟨p1x1, q1x1, r1x1, f1x1, g1x1, h1x1⟩ := cell3 hb1 (w.heap.size + 1) (by go_size)
        simp only [ho1]
        go_wp2_with fail
        refine (ok_impl _ _ _ _ ).mono ?_
        rintro e w2 ⟨rfl, hb2⟩
        have hz2 : w.heap.size + 2 ≤ w2.heap.size := by have := hb2.size; first | omega | (simp at this; omega)
        obtain ⟨p2x0, q2x0, r2x0, f2x0, g2x0, h2x0⟩ := cell3 hb2 (w.heap.size) (by go_size)
        obtain ⟨p2x1, q2x1, r2x1, f2x1, g2x1, h2x1⟩ := cell3 hb2 (w.heap.size + 1) (by go_size)
        simp only [ho2]
        go_wp2
        go_ret
        exact ⟨ret_bool (by simp), ((((Below.refl _ _).alloc (Nat.le_refl _) _).alloc (by go_size) _).trans (hb1.mono (by go_size))).trans (hb2.mono (by go_size))⟩
      · go_enter Try.func59, Try.ntmps59
        go_wp2_with fail
        refine (ok_impl _ _ _ _ ).mono ?_
        rintro e w1 ⟨rfl, hb1⟩
        have hz1 : w.heap.size + 2 ≤ w1.heap.size := by have := hb1.size; first | omega | (simp at this; omega)
        obtain ⟨p1x0, q1x0, r1x0, f1x0, g1x0, h1x0⟩ := cell3 hb1 (w.heap.size) (by go_size)
        obtain ⟨p1x1, q1x1, r1x1, f1x1, g1x1, h1x1⟩ := cell3 hb1 (w.heap.size + 1) (by go_size)
        simp only [ho1]
        go_wp2_with fail
        refine (ok_impl _ _ _ _ ).mono ?_
        rintro e w2 ⟨rfl, hb2⟩
        have hz2 : w.heap.size + 2 ≤ w2.heap.size := by have := hb2.size; first | omega | (simp at this; omega)
        obtain ⟨p2x0, q2x0, r2x0, f2x0, g2x0, h2x0⟩ := cell3 hb2 (w.heap.size) (by go_size)
        obtain ⟨p2x1, q2x1, r2x1, f2x1, g2x1, h2x1⟩ := cell3 hb2 (w.heap.size + 1) (by go_size)
        simp only [ho2]
        go_wp2
        go_ret
        exact ⟨ret_bool (by simp), ((((Below.refl _ _).alloc (Nat.le_refl _) _).alloc (by go_size) _).trans (hb1.mono (by go_size))).trans (hb2.mono (by go_size))⟩

end Go.Proofs.Ytdomalclpjijaaa

/-
  The contract of the program's SpanJoin.
-/
namespace Go.Proofs.Ytdomalclpjijaaa
open Go.RowKit
set_option linter.unusedVariables false
set_option linter.unusedSimpArgs false

theorem okF_bd {l u : Int} (h : okF true l u = true) : -16 ≤ l ∧ l ≤ 15 ∧ -16 ≤ u ∧ u ≤ 15 ∧ l ≤ u := by simpa [okF] using h
theorem okF_no {l u : Int} (h : okF false l u = true) : l = 0 ∧ u = 0 := by simpa [okF] using h
theorem join_none_r (a : Bool) (al ah bl bh : Int) (h1 : okF a al ah = true) (h2 : okF false bl bh = true) : joinF a al ah false bl bh = (a, al, ah) := by
  obtain ⟨rfl, rfl⟩ := okF_no h2
  cases a
  · obtain ⟨rfl, rfl⟩ := okF_no h1
    simp [joinF, h1]
  · simp [joinF, h1, h2]
theorem join_mk {al ah bl bh x y : Int} (h1 : okF true al ah = true) (h2 : okF true bl bh = true) (hx : x = min al bl) (hy : y = max ah bh) : joinF true al ah true bl bh = mkF x y := by
  have e1 := okF_bd h1
  have e2 := okF_bd h2
  subst hx hy
  unfold mkF
  rw [if_neg (by omega)]
  simp [joinF, h1, h2]
theorem join_ends (a : Bool) (al ah bl bh : Int) (h1 : okF a al ah = true) (h2 : okF true bl bh = true) : joinF a al ah true bl bh = if a = true then (true, min al bl, max ah bh) else (true, bl, bh) := by
  cases a <;> simp [joinF, h1, h2]

set_option maxHeartbeats 1000000 in
theorem join_impl (a : Bool) (al ah : Int) (b : Bool) (bl bh : Int) (w : World) : Calls Try.prog 35 #[.agg #[.bool a, .int .i64 al, .int .i64 ah], .agg #[.bool b, .int .i64 bl, .int .i64 bh]] w fun e w' => RetSp (joinF a al ah b bl bh) e ∧ Below w.heap.size w w' := by
  cases ho1 : okF a al ah
  · go_enter Try.func35, Try.ntmps35
    go_wp2_with fail
    refine (ok_impl _ _ _ _).mono ?_
    rintro e w1 ⟨rfl, hr1⟩
    have hb1 : Below w.heap.size w w1 := ((((Below.refl _ _).alloc (by go_size) _).alloc (by go_size) _).alloc (by go_size) _).trans (hr1.mono (by go_size))
    have hz1 : w.heap.size + 3 ≤ w1.heap.size := by have := hr1.size; first | omega | (simp at this; omega)
    have hB1 : Below w.heap.size w w1 := hb1
    have c1x0o0 : w1.cell? ⟨w.heap.size, 0, none⟩ = some (.bool a) := (hr1.cell (p := ⟨w.heap.size, 0, none⟩) (by go_size)).trans (by simp [go_sem])
    have c1x0o1 : w1.cell? ⟨w.heap.size, 1, none⟩ = some (.int .i64 al) := (hr1.cell (p := ⟨w.heap.size, 1, none⟩) (by go_size)).trans (by simp [go_sem])
    have c1x0o2 : w1.cell? ⟨w.heap.size, 2, none⟩ = some (.int .i64 ah) := (hr1.cell (p := ⟨w.heap.size, 2, none⟩) (by go_size)).trans (by simp [go_sem])
    have c1x1o0 : w1.cell? ⟨w.heap.size + 1, 0, none⟩ = some (.bool b) := (hr1.cell (p := ⟨w.heap.size + 1, 0, none⟩) (by go_size)).trans (by simp [go_sem])
    have c1x1o1 : w1.cell? ⟨w.heap.size + 1, 1, none⟩ = some (.int .i64 bl) := (hr1.cell (p := ⟨w.heap.size + 1, 1, none⟩) (by go_size)).trans (by simp [go_sem])
    have c1x1o2 : w1.cell? ⟨w.heap.size + 1, 2, none⟩ = some (.int .i64 bh) := (hr1.cell (p := ⟨w.heap.size + 1, 2, none⟩) (by go_size)).trans (by simp [go_sem])
    have c1x2o0 : w1.cell? ⟨w.heap.size + 1 + 1, 0, none⟩ = some (.bool false) := (hr1.cell (p := ⟨w.heap.size + 1 + 1, 0, none⟩) (by go_size)).trans (by simp [go_sem])
    have f1x2o0 : w1.frozen? ⟨w.heap.size + 1 + 1, 0, none⟩ = false := (hr1.frozen (p := ⟨w.heap.size + 1 + 1, 0, none⟩) (by go_size)).trans (by simp [go_sem])
    have c1x2o1 : w1.cell? ⟨w.heap.size + 1 + 1, 1, none⟩ = some (.int .i64 0) := (hr1.cell (p := ⟨w.heap.size + 1 + 1, 1, none⟩) (by go_size)).trans (by simp [go_sem])
    have f1x2o1 : w1.frozen? ⟨w.heap.size + 1 + 1, 1, none⟩ = false := (hr1.frozen (p := ⟨w.heap.size + 1 + 1, 1, none⟩) (by go_size)).trans (by simp [go_sem])
    have c1x2o2 : w1.cell? ⟨w.heap.size + 1 + 1, 2, none⟩ = some (.int .i64 0) := (hr1.cell (p := ⟨w.heap.size + 1 + 1, 2, none⟩) (by go_size)).trans (by simp [go_sem])
    have f1x2o2 : w1.frozen? ⟨w.heap.size + 1 + 1, 2, none⟩ = false := (hr1.frozen (p := ⟨w.heap.size + 1 + 1, 2, none⟩) (by go_size)).trans (by simp [go_sem])
    have n1x0 : w.heap.size < w1.heap.size := by omega
    have n1x1 : w.heap.size + 1 < w1.heap.size := by omega
    have n1x2 : w.heap.size + 1 + 1 < w1.heap.size := by omega
    clear hr1 hb1
    simp only [ho1]
    go_wp2
    refine bodyPost_ret (v := .agg #[.bool false, .int .i64 0, .int .i64 0]) (by simp [results, Try.results35, go_sem, n1x0, n1x1, n1x2, c1x0o0, c1x0o1, c1x0o2, c1x1o0, c1x1o1, c1x1o2, c1x2o0, c1x2o1, c1x2o2]) rfl ⟨RetSp.mk (by simp [joinF, ho1, noSp]), ?_⟩
    go_grown
  · cases ho2 : okF b bl bh
    · go_enter Try.func35, Try.ntmps35
      go_wp2_with fail
      refine (ok_impl _ _ _ _).mono ?_
      rintro e w1 ⟨rfl, hr1⟩
      have hb1 : Below w.heap.size w w1 := ((((Below.refl _ _).alloc (by go_size) _).alloc (by go_size) _).alloc (by go_size) _).trans (hr1.mono (by go_size))
      have hz1 : w.heap.size + 3 ≤ w1.heap.size := by have := hr1.size; first | omega | (simp at this; omega)
      have hB1 : Below w.heap.size w w1 := hb1
      have c1x0o0 : w1.cell? ⟨w.heap.size, 0, none⟩ = some (.bool a) := (hr1.cell (p := ⟨w.heap.size, 0, none⟩) (by go_size)).trans (by simp [go_sem])
      have c1x0o1 : w1.cell? ⟨w.heap.size, 1, none⟩ = some (.int .i64 al) := (hr1.cell (p := ⟨w.heap.size, 1, none⟩) (by go_size)).trans (by simp [go_sem])
      have c1x0o2 : w1.cell? ⟨w.heap.size, 2, none⟩ = some (.int .i64 ah) := (hr1.cell (p := ⟨w.heap.size, 2, none⟩) (by go_size)).trans (by simp [go_sem])
      have c1x1o0 : w1.cell? ⟨w.heap.size + 1, 0, none⟩ = some (.bool b) := (hr1.cell (p := ⟨w.heap.size + 1, 0, none⟩) (by go_size)).trans (by simp [go_sem])
      have c1x1o1 : w1.cell? ⟨w.heap.size + 1, 1, none⟩ = some (.int .i64 bl) := (hr1.cell (p := ⟨w.heap.size + 1, 1, none⟩) (by go_size)).trans (by simp [go_sem])
      have c1x1o2 : w1.cell? ⟨w.heap.size + 1, 2, none⟩ = some (.int .i64 bh) := (hr1.cell (p := ⟨w.heap.size + 1, 2, none⟩) (by go_size)).trans (by simp [go_sem])
      have c1x2o0 : w1.cell? ⟨w.heap.size + 1 + 1, 0, none⟩ = some (.bool false) := (hr1.cell (p := ⟨w.heap.size + 1 + 1, 0, none⟩) (by go_size)).trans (by simp [go_sem])
      have f1x2o0 : w1.frozen? ⟨w.heap.size + 1 + 1, 0, none⟩ = false := (hr1.frozen (p := ⟨w.heap.size + 1 + 1, 0, none⟩) (by go_size)).trans (by simp [go_sem])
      have c1x2o1 : w1.cell? ⟨w.heap.size + 1 + 1, 1, none⟩ = some (.int .i64 0) := (hr1.cell (p := ⟨w.heap.size + 1 + 1, 1, none⟩) (by go_size)).trans (by simp [go_sem])
      have f1x2o1 : w1.frozen? ⟨w.heap.size + 1 + 1, 1, none⟩ = false := (hr1.frozen (p := ⟨w.heap.size + 1 + 1, 1, none⟩) (by go_size)).trans (by simp [go_sem])
      have c1x2o2 : w1.cell? ⟨w.heap.size + 1 + 1, 2, none⟩ = some (.int .i64 0) := (hr1.cell (p := ⟨w.heap.size + 1 + 1, 2, none⟩) (by go_size)).trans (by simp [go_sem])
      have f1x2o2 : w1.frozen? ⟨w.heap.size + 1 + 1, 2, none⟩ = false := (hr1.frozen (p := ⟨w.heap.size + 1 + 1, 2, none⟩) (by go_size)).trans (by simp [go_sem])
      have n1x0 : w.heap.size < w1.heap.size := by omega
      have n1x1 : w.heap.size + 1 < w1.heap.size := by omega
      have n1x2 : w.heap.size + 1 + 1 < w1.heap.size := by omega
      clear hr1 hb1
      simp only [ho1]
      go_wp2_with fail
      refine (ok_impl _ _ _ _).mono ?_
      rintro e w2 ⟨rfl, hr2⟩
      have hb2 : Below w1.heap.size w1 w2 := (Below.refl _ _).trans (hr2.mono (by go_size))
      have hz2 : w1.heap.size + 0 ≤ w2.heap.size := by have := hr2.size; first | omega | (simp at this; omega)
      have hB2 : Below w.heap.size w w2 := hB1.trans (hb2.mono (by go_size))
      have c2x0o0 : w2.cell? ⟨w.heap.size, 0, none⟩ = some (.bool a) := (hb2.cell (p := ⟨w.heap.size, 0, none⟩) (by go_size)).trans c1x0o0
      have c2x0o1 : w2.cell? ⟨w.heap.size, 1, none⟩ = some (.int .i64 al) := (hb2.cell (p := ⟨w.heap.size, 1, none⟩) (by go_size)).trans c1x0o1
      have c2x0o2 : w2.cell? ⟨w.heap.size, 2, none⟩ = some (.int .i64 ah) := (hb2.cell (p := ⟨w.heap.size, 2, none⟩) (by go_size)).trans c1x0o2
      have c2x1o0 : w2.cell? ⟨w.heap.size + 1, 0, none⟩ = some (.bool b) := (hb2.cell (p := ⟨w.heap.size + 1, 0, none⟩) (by go_size)).trans c1x1o0
      have c2x1o1 : w2.cell? ⟨w.heap.size + 1, 1, none⟩ = some (.int .i64 bl) := (hb2.cell (p := ⟨w.heap.size + 1, 1, none⟩) (by go_size)).trans c1x1o1
      have c2x1o2 : w2.cell? ⟨w.heap.size + 1, 2, none⟩ = some (.int .i64 bh) := (hb2.cell (p := ⟨w.heap.size + 1, 2, none⟩) (by go_size)).trans c1x1o2
      have c2x2o0 : w2.cell? ⟨w.heap.size + 1 + 1, 0, none⟩ = some (.bool false) := (hb2.cell (p := ⟨w.heap.size + 1 + 1, 0, none⟩) (by go_size)).trans c1x2o0
      have f2x2o0 : w2.frozen? ⟨w.heap.size + 1 + 1, 0, none⟩ = false := (hb2.frozen (p := ⟨w.heap.size + 1 + 1, 0, none⟩) (by go_size)).trans f1x2o0
      have c2x2o1 : w2.cell? ⟨w.heap.size + 1 + 1, 1, none⟩ = some (.int .i64 0) := (hb2.cell (p := ⟨w.heap.size + 1 + 1, 1, none⟩) (by go_size)).trans c1x2o1
      have f2x2o1 : w2.frozen? ⟨w.heap.size + 1 + 1, 1, none⟩ = false := (hb2.frozen (p := ⟨w.heap.size + 1 + 1, 1, none⟩) (by go_size)).trans f1x2o1
      have c2x2o2 : w2.cell? ⟨w.heap.size + 1 + 1, 2, none⟩ = some (.int .i64 0) := (hb2.cell (p := ⟨w.heap.size + 1 + 1, 2, none⟩) (by go_size)).trans c1x2o2
      have f2x2o2 : w2.frozen? ⟨w.heap.size + 1 + 1, 2, none⟩ = false := (hb2.frozen (p := ⟨w.heap.size + 1 + 1, 2, none⟩) (by go_size)).trans f1x2o2
      have n2x0 : w.heap.size < w2.heap.size := by omega
      have n2x1 : w.heap.size + 1 < w2.heap.size := by omega
      have n2x2 : w.heap.size + 1 + 1 < w2.heap.size := by omega
      clear n1x0 n1x1 n1x2 c1x0o0 c1x0o1 c1x0o2 c1x1o0 c1x1o1 c1x1o2 c1x2o0 c1x2o1 c1x2o2 f1x2o0 f1x2o1 f1x2o2
      clear hr2 hb2
      simp only [ho2]
      go_wp2
      refine bodyPost_ret (v := .agg #[.bool false, .int .i64 0, .int .i64 0]) (by simp [results, Try.results35, go_sem, n2x0, n2x1, n2x2, c2x0o0, c2x0o1, c2x0o2, c2x1o0, c2x1o1, c2x1o2, c2x2o0, c2x2o1, c2x2o2]) rfl ⟨RetSp.mk (by simp [joinF, ho1, ho2, noSp]), ?_⟩
      go_grown
    · cases b
      · go_enter Try.func35, Try.ntmps35
        go_wp2_with fail
        refine (ok_impl _ _ _ _).mono ?_
        rintro e w1 ⟨rfl, hr1⟩
        have hb1 : Below w.heap.size w w1 := ((((Below.refl _ _).alloc (by go_size) _).alloc (by go_size) _).alloc (by go_size) _).trans (hr1.mono (by go_size))
        have hz1 : w.heap.size + 3 ≤ w1.heap.size := by have := hr1.size; first | omega | (simp at this; omega)
        have hB1 : Below w.heap.size w w1 := hb1
        have c1x0o0 : w1.cell? ⟨w.heap.size, 0, none⟩ = some (.bool a) := (hr1.cell (p := ⟨w.heap.size, 0, none⟩) (by go_size)).trans (by simp [go_sem])
        have c1x0o1 : w1.cell? ⟨w.heap.size, 1, none⟩ = some (.int .i64 al) := (hr1.cell (p := ⟨w.heap.size, 1, none⟩) (by go_size)).trans (by simp [go_sem])
        have c1x0o2 : w1.cell? ⟨w.heap.size, 2, none⟩ = some (.int .i64 ah) := (hr1.cell (p := ⟨w.heap.size, 2, none⟩) (by go_size)).trans (by simp [go_sem])
        have c1x1o0 : w1.cell? ⟨w.heap.size + 1, 0, none⟩ = some (.bool false) := (hr1.cell (p := ⟨w.heap.size + 1, 0, none⟩) (by go_size)).trans (by simp [go_sem])
        have c1x1o1 : w1.cell? ⟨w.heap.size + 1, 1, none⟩ = some (.int .i64 bl) := (hr1.cell (p := ⟨w.heap.size + 1, 1, none⟩) (by go_size)).trans (by simp [go_sem])
        have c1x1o2 : w1.cell? ⟨w.heap.size + 1, 2, none⟩ = some (.int .i64 bh) := (hr1.cell (p := ⟨w.heap.size + 1, 2, none⟩) (by go_size)).trans (by simp [go_sem])
        have c1x2o0 : w1.cell? ⟨w.heap.size + 1 + 1, 0, none⟩ = some (.bool false) := (hr1.cell (p := ⟨w.heap.size + 1 + 1, 0, none⟩) (by go_size)).trans (by simp [go_sem])
        have f1x2o0 : w1.frozen? ⟨w.heap.size + 1 + 1, 0, none⟩ = false := (hr1.frozen (p := ⟨w.heap.size + 1 + 1, 0, none⟩) (by go_size)).trans (by simp [go_sem])
        have c1x2o1 : w1.cell? ⟨w.heap.size + 1 + 1, 1, none⟩ = some (.int .i64 0) := (hr1.cell (p := ⟨w.heap.size + 1 + 1, 1, none⟩) (by go_size)).trans (by simp [go_sem])
        have f1x2o1 : w1.frozen? ⟨w.heap.size + 1 + 1, 1, none⟩ = false := (hr1.frozen (p := ⟨w.heap.size + 1 + 1, 1, none⟩) (by go_size)).trans (by simp [go_sem])
        have c1x2o2 : w1.cell? ⟨w.heap.size + 1 + 1, 2, none⟩ = some (.int .i64 0) := (hr1.cell (p := ⟨w.heap.size + 1 + 1, 2, none⟩) (by go_size)).trans (by simp [go_sem])
        have f1x2o2 : w1.frozen? ⟨w.heap.size + 1 + 1, 2, none⟩ = false := (hr1.frozen (p := ⟨w.heap.size + 1 + 1, 2, none⟩) (by go_size)).trans (by simp [go_sem])
        have n1x0 : w.heap.size < w1.heap.size := by omega
        have n1x1 : w.heap.size + 1 < w1.heap.size := by omega
        have n1x2 : w.heap.size + 1 + 1 < w1.heap.size := by omega
        clear hr1 hb1
        simp only [ho1]
        go_wp2_with fail
        refine (ok_impl _ _ _ _).mono ?_
        rintro e w2 ⟨rfl, hr2⟩
        have hb2 : Below w1.heap.size w1 w2 := (Below.refl _ _).trans (hr2.mono (by go_size))
        have hz2 : w1.heap.size + 0 ≤ w2.heap.size := by have := hr2.size; first | omega | (simp at this; omega)
        have hB2 : Below w.heap.size w w2 := hB1.trans (hb2.mono (by go_size))
        have c2x0o0 : w2.cell? ⟨w.heap.size, 0, none⟩ = some (.bool a) := (hb2.cell (p := ⟨w.heap.size, 0, none⟩) (by go_size)).trans c1x0o0
        have c2x0o1 : w2.cell? ⟨w.heap.size, 1, none⟩ = some (.int .i64 al) := (hb2.cell (p := ⟨w.heap.size, 1, none⟩) (by go_size)).trans c1x0o1
        have c2x0o2 : w2.cell? ⟨w.heap.size, 2, none⟩ = some (.int .i64 ah) := (hb2.cell (p := ⟨w.heap.size, 2, none⟩) (by go_size)).trans c1x0o2
        have c2x1o0 : w2.cell? ⟨w.heap.size + 1, 0, none⟩ = some (.bool false) := (hb2.cell (p := ⟨w.heap.size + 1, 0, none⟩) (by go_size)).trans c1x1o0
        have c2x1o1 : w2.cell? ⟨w.heap.size + 1, 1, none⟩ = some (.int .i64 bl) := (hb2.cell (p := ⟨w.heap.size + 1, 1, none⟩) (by go_size)).trans c1x1o1
        have c2x1o2 : w2.cell? ⟨w.heap.size + 1, 2, none⟩ = some (.int .i64 bh) := (hb2.cell (p := ⟨w.heap.size + 1, 2, none⟩) (by go_size)).trans c1x1o2
        have c2x2o0 : w2.cell? ⟨w.heap.size + 1 + 1, 0, none⟩ = some (.bool false) := (hb2.cell (p := ⟨w.heap.size + 1 + 1, 0, none⟩) (by go_size)).trans c1x2o0
        have f2x2o0 : w2.frozen? ⟨w.heap.size + 1 + 1, 0, none⟩ = false := (hb2.frozen (p := ⟨w.heap.size + 1 + 1, 0, none⟩) (by go_size)).trans f1x2o0
        have c2x2o1 : w2.cell? ⟨w.heap.size + 1 + 1, 1, none⟩ = some (.int .i64 0) := (hb2.cell (p := ⟨w.heap.size + 1 + 1, 1, none⟩) (by go_size)).trans c1x2o1
        have f2x2o1 : w2.frozen? ⟨w.heap.size + 1 + 1, 1, none⟩ = false := (hb2.frozen (p := ⟨w.heap.size + 1 + 1, 1, none⟩) (by go_size)).trans f1x2o1
        have c2x2o2 : w2.cell? ⟨w.heap.size + 1 + 1, 2, none⟩ = some (.int .i64 0) := (hb2.cell (p := ⟨w.heap.size + 1 + 1, 2, none⟩) (by go_size)).trans c1x2o2
        have f2x2o2 : w2.frozen? ⟨w.heap.size + 1 + 1, 2, none⟩ = false := (hb2.frozen (p := ⟨w.heap.size + 1 + 1, 2, none⟩) (by go_size)).trans f1x2o2
        have n2x0 : w.heap.size < w2.heap.size := by omega
        have n2x1 : w.heap.size + 1 < w2.heap.size := by omega
        have n2x2 : w.heap.size + 1 + 1 < w2.heap.size := by omega
        clear n1x0 n1x1 n1x2 c1x0o0 c1x0o1 c1x0o2 c1x1o0 c1x1o1 c1x1o2 c1x2o0 c1x2o1 c1x2o2 f1x2o0 f1x2o1 f1x2o2
        clear hr2 hb2
        simp only [ho2]
        go_wp2
        refine bodyPost_ret (v := .agg #[.bool a, .int .i64 al, .int .i64 ah]) (by simp [results, Try.results35, go_sem, n2x0, n2x1, n2x2, c2x0o0, c2x0o1, c2x0o2, c2x1o0, c2x1o1, c2x1o2, c2x2o0, c2x2o1, c2x2o2]) rfl ⟨RetSp.mk (join_none_r a al ah bl bh ho1 ho2), ?_⟩
        go_grown
      · have hbd := (okF_bd ho2).2.2.2.2
        go_enter Try.func35, Try.ntmps35
        go_wp2_with fail
        refine (ok_impl _ _ _ _).mono ?_
        rintro e w1 ⟨rfl, hr1⟩
        have hb1 : Below w.heap.size w w1 := ((((Below.refl _ _).alloc (by go_size) _).alloc (by go_size) _).alloc (by go_size) _).trans (hr1.mono (by go_size))
        have hz1 : w.heap.size + 3 ≤ w1.heap.size := by have := hr1.size; first | omega | (simp at this; omega)
        have hB1 : Below w.heap.size w w1 := hb1
        have c1x0o0 : w1.cell? ⟨w.heap.size, 0, none⟩ = some (.bool a) := (hr1.cell (p := ⟨w.heap.size, 0, none⟩) (by go_size)).trans (by simp [go_sem])
        have c1x0o1 : w1.cell? ⟨w.heap.size, 1, none⟩ = some (.int .i64 al) := (hr1.cell (p := ⟨w.heap.size, 1, none⟩) (by go_size)).trans (by simp [go_sem])
        have c1x0o2 : w1.cell? ⟨w.heap.size, 2, none⟩ = some (.int .i64 ah) := (hr1.cell (p := ⟨w.heap.size, 2, none⟩) (by go_size)).trans (by simp [go_sem])
        have c1x1o0 : w1.cell? ⟨w.heap.size + 1, 0, none⟩ = some (.bool true) := (hr1.cell (p := ⟨w.heap.size + 1, 0, none⟩) (by go_size)).trans (by simp [go_sem])
        have c1x1o1 : w1.cell? ⟨w.heap.size + 1, 1, none⟩ = some (.int .i64 bl) := (hr1.cell (p := ⟨w.heap.size + 1, 1, none⟩) (by go_size)).trans (by simp [go_sem])
        have c1x1o2 : w1.cell? ⟨w.heap.size + 1, 2, none⟩ = some (.int .i64 bh) := (hr1.cell (p := ⟨w.heap.size + 1, 2, none⟩) (by go_size)).trans (by simp [go_sem])
        have c1x2o0 : w1.cell? ⟨w.heap.size + 1 + 1, 0, none⟩ = some (.bool false) := (hr1.cell (p := ⟨w.heap.size + 1 + 1, 0, none⟩) (by go_size)).trans (by simp [go_sem])
        have f1x2o0 : w1.frozen? ⟨w.heap.size + 1 + 1, 0, none⟩ = false := (hr1.frozen (p := ⟨w.heap.size + 1 + 1, 0, none⟩) (by go_size)).trans (by simp [go_sem])
        have c1x2o1 : w1.cell? ⟨w.heap.size + 1 + 1, 1, none⟩ = some (.int .i64 0) := (hr1.cell (p := ⟨w.heap.size + 1 + 1, 1, none⟩) (by go_size)).trans (by simp [go_sem])
        have f1x2o1 : w1.frozen? ⟨w.heap.size + 1 + 1, 1, none⟩ = false := (hr1.frozen (p := ⟨w.heap.size + 1 + 1, 1, none⟩) (by go_size)).trans (by simp [go_sem])
        have c1x2o2 : w1.cell? ⟨w.heap.size + 1 + 1, 2, none⟩ = some (.int .i64 0) := (hr1.cell (p := ⟨w.heap.size + 1 + 1, 2, none⟩) (by go_size)).trans (by simp [go_sem])
        have f1x2o2 : w1.frozen? ⟨w.heap.size + 1 + 1, 2, none⟩ = false := (hr1.frozen (p := ⟨w.heap.size + 1 + 1, 2, none⟩) (by go_size)).trans (by simp [go_sem])
        have n1x0 : w.heap.size < w1.heap.size := by omega
        have n1x1 : w.heap.size + 1 < w1.heap.size := by omega
        have n1x2 : w.heap.size + 1 + 1 < w1.heap.size := by omega
        clear hr1 hb1
        simp only [ho1]
        go_wp2_with fail
        refine (ok_impl _ _ _ _).mono ?_
        rintro e w2 ⟨rfl, hr2⟩
        have hb2 : Below w1.heap.size w1 w2 := (Below.refl _ _).trans (hr2.mono (by go_size))
        have hz2 : w1.heap.size + 0 ≤ w2.heap.size := by have := hr2.size; first | omega | (simp at this; omega)
        have hB2 : Below w.heap.size w w2 := hB1.trans (hb2.mono (by go_size))
        have c2x0o0 : w2.cell? ⟨w.heap.size, 0, none⟩ = some (.bool a) := (hb2.cell (p := ⟨w.heap.size, 0, none⟩) (by go_size)).trans c1x0o0
        have c2x0o1 : w2.cell? ⟨w.heap.size, 1, none⟩ = some (.int .i64 al) := (hb2.cell (p := ⟨w.heap.size, 1, none⟩) (by go_size)).trans c1x0o1
        have c2x0o2 : w2.cell? ⟨w.heap.size, 2, none⟩ = some (.int .i64 ah) := (hb2.cell (p := ⟨w.heap.size, 2, none⟩) (by go_size)).trans c1x0o2
        have c2x1o0 : w2.cell? ⟨w.heap.size + 1, 0, none⟩ = some (.bool true) := (hb2.cell (p := ⟨w.heap.size + 1, 0, none⟩) (by go_size)).trans c1x1o0
        have c2x1o1 : w2.cell? ⟨w.heap.size + 1, 1, none⟩ = some (.int .i64 bl) := (hb2.cell (p := ⟨w.heap.size + 1, 1, none⟩) (by go_size)).trans c1x1o1
        have c2x1o2 : w2.cell? ⟨w.heap.size + 1, 2, none⟩ = some (.int .i64 bh) := (hb2.cell (p := ⟨w.heap.size + 1, 2, none⟩) (by go_size)).trans c1x1o2
        have c2x2o0 : w2.cell? ⟨w.heap.size + 1 + 1, 0, none⟩ = some (.bool false) := (hb2.cell (p := ⟨w.heap.size + 1 + 1, 0, none⟩) (by go_size)).trans c1x2o0
        have f2x2o0 : w2.frozen? ⟨w.heap.size + 1 + 1, 0, none⟩ = false := (hb2.frozen (p := ⟨w.heap.size + 1 + 1, 0, none⟩) (by go_size)).trans f1x2o0
        have c2x2o1 : w2.cell? ⟨w.heap.size + 1 + 1, 1, none⟩ = some (.int .i64 0) := (hb2.cell (p := ⟨w.heap.size + 1 + 1, 1, none⟩) (by go_size)).trans c1x2o1
        have f2x2o1 : w2.frozen? ⟨w.heap.size + 1 + 1, 1, none⟩ = false := (hb2.frozen (p := ⟨w.heap.size + 1 + 1, 1, none⟩) (by go_size)).trans f1x2o1
        have c2x2o2 : w2.cell? ⟨w.heap.size + 1 + 1, 2, none⟩ = some (.int .i64 0) := (hb2.cell (p := ⟨w.heap.size + 1 + 1, 2, none⟩) (by go_size)).trans c1x2o2
        have f2x2o2 : w2.frozen? ⟨w.heap.size + 1 + 1, 2, none⟩ = false := (hb2.frozen (p := ⟨w.heap.size + 1 + 1, 2, none⟩) (by go_size)).trans f1x2o2
        have n2x0 : w.heap.size < w2.heap.size := by omega
        have n2x1 : w.heap.size + 1 < w2.heap.size := by omega
        have n2x2 : w.heap.size + 1 + 1 < w2.heap.size := by omega
        clear n1x0 n1x1 n1x2 c1x0o0 c1x0o1 c1x0o2 c1x1o0 c1x1o1 c1x1o2 c1x2o0 c1x2o1 c1x2o2 f1x2o0 f1x2o1 f1x2o2
        clear hr2 hb2
        simp only [ho2]
        go_wp2_with fail
        refine (stretch2 _ _ _ bl bh _ _ hbd (by simp) (by simp) (by simp)).mono ?_
        rintro e w3 ⟨hs3, hr3⟩
        obtain ⟨a3, l3, u3, hx3, rfl⟩ := hs3.out
        clear hs3
        have hb3 : Below w2.heap.size w2 w3 := ((Below.refl _ _).alloc (by go_size) _).trans (hr3.mono (by go_size))
        have hz3 : w2.heap.size + 1 ≤ w3.heap.size := by have := hr3.size; first | omega | (simp at this; omega)
        have hB3 : Below w.heap.size w w3 := hB2.trans (hb3.mono (by go_size))
        have c3x0o0 : w3.cell? ⟨w.heap.size, 0, none⟩ = some (.bool a) := (hb3.cell (p := ⟨w.heap.size, 0, none⟩) (by go_size)).trans c2x0o0
        have c3x0o1 : w3.cell? ⟨w.heap.size, 1, none⟩ = some (.int .i64 al) := (hb3.cell (p := ⟨w.heap.size, 1, none⟩) (by go_size)).trans c2x0o1
        have c3x0o2 : w3.cell? ⟨w.heap.size, 2, none⟩ = some (.int .i64 ah) := (hb3.cell (p := ⟨w.heap.size, 2, none⟩) (by go_size)).trans c2x0o2
        have c3x1o0 : w3.cell? ⟨w.heap.size + 1, 0, none⟩ = some (.bool true) := (hb3.cell (p := ⟨w.heap.size + 1, 0, none⟩) (by go_size)).trans c2x1o0
        have c3x1o1 : w3.cell? ⟨w.heap.size + 1, 1, none⟩ = some (.int .i64 bl) := (hb3.cell (p := ⟨w.heap.size + 1, 1, none⟩) (by go_size)).trans c2x1o1
        have c3x1o2 : w3.cell? ⟨w.heap.size + 1, 2, none⟩ = some (.int .i64 bh) := (hb3.cell (p := ⟨w.heap.size + 1, 2, none⟩) (by go_size)).trans c2x1o2
        have c3x2o0 : w3.cell? ⟨w.heap.size + 1 + 1, 0, none⟩ = some (.bool false) := (hb3.cell (p := ⟨w.heap.size + 1 + 1, 0, none⟩) (by go_size)).trans c2x2o0
        have f3x2o0 : w3.frozen? ⟨w.heap.size + 1 + 1, 0, none⟩ = false := (hb3.frozen (p := ⟨w.heap.size + 1 + 1, 0, none⟩) (by go_size)).trans f2x2o0
        have c3x2o1 : w3.cell? ⟨w.heap.size + 1 + 1, 1, none⟩ = some (.int .i64 0) := (hb3.cell (p := ⟨w.heap.size + 1 + 1, 1, none⟩) (by go_size)).trans c2x2o1
        have f3x2o1 : w3.frozen? ⟨w.heap.size + 1 + 1, 1, none⟩ = false := (hb3.frozen (p := ⟨w.heap.size + 1 + 1, 1, none⟩) (by go_size)).trans f2x2o1
        have c3x2o2 : w3.cell? ⟨w.heap.size + 1 + 1, 2, none⟩ = some (.int .i64 0) := (hb3.cell (p := ⟨w.heap.size + 1 + 1, 2, none⟩) (by go_size)).trans c2x2o2
        have f3x2o2 : w3.frozen? ⟨w.heap.size + 1 + 1, 2, none⟩ = false := (hb3.frozen (p := ⟨w.heap.size + 1 + 1, 2, none⟩) (by go_size)).trans f2x2o2
        have n3x0 : w.heap.size < w3.heap.size := by omega
        have n3x1 : w.heap.size + 1 < w3.heap.size := by omega
        have n3x2 : w.heap.size + 1 + 1 < w3.heap.size := by omega
        clear n2x0 n2x1 n2x2 c2x0o0 c2x0o1 c2x0o2 c2x1o0 c2x1o1 c2x1o2 c2x2o0 c2x2o1 c2x2o2 f2x2o0 f2x2o1 f2x2o2
        clear hr3 hb3
        go_wp2
        refine bodyPost_ret (v := .agg #[.bool a3, .int .i64 l3, .int .i64 u3]) (by simp [results, Try.results35, go_sem, n3x0, n3x1, n3x2, c3x0o0, c3x0o1, c3x0o2, c3x1o0, c3x1o1, c3x1o2, c3x2o0, c3x2o1, c3x2o2]) rfl ⟨RetSp.mk ((join_ends a al ah bl bh ho1 ho2).trans hx3), ?_⟩
        go_grown

end Go.Proofs.Ytdomalclpjijaaa
