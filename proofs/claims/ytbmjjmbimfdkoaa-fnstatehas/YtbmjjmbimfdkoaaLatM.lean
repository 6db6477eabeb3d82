/-
  Plain mathematics: join and meet of ok spans fit together.
-/
import Derived.Test.YtbmjjmbimfdkoaaFix
import Derived.Test.YtbmjjmbimfdkoaaJoinS
namespace Go.Proofs.Ytbmjjmbimfdkoaa
open Go.RowKit
set_option linter.unusedVariables false
set_option linter.unusedSimpArgs false

theorem ok_cases {a : Bool} {l u : Int} (h : okF a l u = true) : (a, l, u) = noSp ∨ (a = true ∧ -16 ≤ l ∧ l ≤ u ∧ u ≤ 15) := by
  cases a
  · simp [okF] at h; left; obtain ⟨rfl, rfl⟩ := h; rfl
  · simp [okF] at h; right; refine ⟨rfl, ?_⟩; omega
theorem okw {l u : Int} (h1 : -16 ≤ l) (h2 : l ≤ u) (h3 : u ≤ 15) : okF true l u = true := by simp [okF]; omega
theorem okn : okF false 0 0 = true := rfl
theorem jn_t {al ah bl bh : Int} (h : okF true al ah = true) (k : okF true bl bh = true) : joinF true al ah true bl bh = (true, min al bl, max ah bh) := by simp [joinF, h, k]
theorem jn_n {b : Bool} {bl bh : Int} (k : okF b bl bh = true) : joinF false 0 0 b bl bh = (b, bl, bh) := by simp [joinF, k, okn]
theorem jn_r {al ah : Int} (h : okF true al ah = true) : joinF true al ah false 0 0 = (true, al, ah) := by simp [joinF, h, okn]
theorem mt_t {al ah bl bh : Int} (h : okF true al ah = true) (k : okF true bl bh = true) : meetF true al ah true bl bh = mkF (max al bl) (min ah bh) := by simp [meetF, bothF, h, k]
theorem mt_n {b : Bool} {bl bh : Int} : meetF false 0 0 b bl bh = noSp := by simp [meetF, bothF]
theorem mt_r {a : Bool} {al ah : Int} : meetF a al ah false 0 0 = noSp := by simp [meetF, bothF]
theorem mkS_no {l u : Int} (h : u < l) : mkF l u = noSp := by simp [mkF, h]
theorem mkS_yes {l u : Int} (h : l ≤ u) : mkF l u = (true, l, u) := by simp [mkF]; omega

def joinS (s t : Sp) : Sp := joinF s.1 s.2.1 s.2.2 t.1 t.2.1 t.2.2
def meetS (s t : Sp) : Sp := meetF s.1 s.2.1 s.2.2 t.1 t.2.1 t.2.2
def okS (s : Sp) : Prop := s = noSp ∨ ∃ l u : Int, s = (true, l, u) ∧ -16 ≤ l ∧ l ≤ u ∧ u ≤ 15

theorem okS_of {a : Bool} {l u : Int} (h : okF a l u = true) : okS (a, l, u) := by
  rcases ok_cases h with k | ⟨rfl, k⟩
  · exact .inl k
  · exact .inr ⟨l, u, rfl, by assumption⟩

theorem joinS_n {t : Sp} (h : okS t) : joinS noSp t = t := by
  rcases h with rfl | ⟨l, u, rfl, h1, h2, h3⟩
  · rfl
  · exact jn_n (okw h1 h2 h3)
theorem joinS_r {t : Sp} (h : okS t) : joinS t noSp = t := by
  rcases h with rfl | ⟨l, u, rfl, h1, h2, h3⟩
  · rfl
  · exact jn_r (okw h1 h2 h3)
theorem joinS_t {l u m v : Int} (h : -16 ≤ l ∧ l ≤ u ∧ u ≤ 15) (k : -16 ≤ m ∧ m ≤ v ∧ v ≤ 15) : joinS (true, l, u) (true, m, v) = (true, min l m, max u v) := jn_t (okw h.1 h.2.1 h.2.2) (okw k.1 k.2.1 k.2.2)
theorem meetS_n (t : Sp) : meetS noSp t = noSp := mt_n
theorem meetS_r (t : Sp) : meetS t noSp = noSp := mt_r
theorem meetS_t {l u m v : Int} (h : -16 ≤ l ∧ l ≤ u ∧ u ≤ 15) (k : -16 ≤ m ∧ m ≤ v ∧ v ≤ 15) : meetS (true, l, u) (true, m, v) = mkF (max l m) (min u v) := mt_t (okw h.1 h.2.1 h.2.2) (okw k.1 k.2.1 k.2.2)

theorem absorb1 {s t : Sp} (hs : okS s) (ht : okS t) : meetS s (joinS s t) = s := by
  rcases hs with rfl | ⟨l, u, rfl, h⟩
  · rw [meetS_n]
  · rcases ht with rfl | ⟨m, v, rfl, k⟩
    · rw [joinS_r (.inr ⟨l, u, rfl, h⟩), meetS_t h h, mkS_yes (by omega)]; simp
    · rw [joinS_t h k, meetS_t h (by omega), mkS_yes (by omega)]
      simp only [Prod.mk.injEq, true_and]; omega
theorem absorb2 {s t : Sp} (hs : okS s) (ht : okS t) : joinS s (meetS s t) = s := by
  rcases hs with rfl | ⟨l, u, rfl, h⟩
  · rw [meetS_n]; rfl
  · rcases ht with rfl | ⟨m, v, rfl, k⟩
    · rw [meetS_r, joinS_r (.inr ⟨l, u, rfl, h⟩)]
    · rw [meetS_t h k]
      by_cases e : max l m ≤ min u v
      · rw [mkS_yes e, joinS_t h (by omega)]; simp only [Prod.mk.injEq, true_and]; omega
      · rw [mkS_no (by omega), joinS_r (.inr ⟨l, u, rfl, h⟩)]
theorem okS_join {s t : Sp} (hs : okS s) (ht : okS t) : okS (joinS s t) := by
  rcases hs with rfl | ⟨l, u, rfl, h⟩
  · rw [joinS_n ht]; exact ht
  · rcases ht with rfl | ⟨m, v, rfl, k⟩
    · rw [joinS_r (.inr ⟨l, u, rfl, h⟩)]; exact .inr ⟨l, u, rfl, h⟩
    · rw [joinS_t h k]; exact .inr ⟨_, _, rfl, by omega⟩
theorem okS_mk {l u : Int} (h : -16 ≤ l) (k : u ≤ 15) : okS (mkF l u) := by
  by_cases e : l ≤ u
  · rw [mkS_yes e]; exact .inr ⟨_, _, rfl, by omega⟩
  · rw [mkS_no (by omega)]; exact .inl rfl
theorem joinS_assoc {s t r : Sp} (hs : okS s) (ht : okS t) (hr : okS r) : joinS (joinS s t) r = joinS s (joinS t r) := by
  rcases hs with rfl | ⟨l, u, rfl, h⟩
  · rw [joinS_n ht, joinS_n (okS_join ht hr)]
  · rcases ht with rfl | ⟨m, v, rfl, k⟩
    · rw [joinS_r (.inr ⟨l, u, rfl, h⟩), joinS_n hr]
    · rcases hr with rfl | ⟨n, x, rfl, j⟩
      · rw [joinS_r (okS_join (.inr ⟨l, u, rfl, h⟩) (.inr ⟨m, v, rfl, k⟩)), joinS_r (.inr ⟨m, v, rfl, k⟩)]
      · rw [joinS_t h k, joinS_t k j, joinS_t (by omega) j, joinS_t h (by omega)]
        simp only [Prod.mk.injEq, true_and]; omega
theorem meetS_assoc {s t r : Sp} (hs : okS s) (ht : okS t) (hr : okS r) : meetS (meetS s t) r = meetS s (meetS t r) := by
  rcases hs with rfl | ⟨l, u, rfl, h⟩
  · rw [meetS_n, meetS_n, meetS_n]
  · rcases ht with rfl | ⟨m, v, rfl, k⟩
    · rw [meetS_r, meetS_n, meetS_r]
    · rcases hr with rfl | ⟨n, x, rfl, j⟩
      · rw [meetS_r, meetS_r, meetS_r]
      · rw [meetS_t h k, meetS_t k j]
        by_cases e : max l m ≤ min u v
        · rw [mkS_yes e, meetS_t (by omega) j]
          by_cases f : max m n ≤ min v x
          · rw [mkS_yes f, meetS_t h (by omega)]
            by_cases g : max (max l m) n ≤ min (min u v) x
            · rw [mkS_yes g, mkS_yes (by omega)]; simp only [Prod.mk.injEq, true_and]; omega
            · rw [mkS_no (by omega), mkS_no (by omega)]
          · rw [mkS_no (show min v x < max m n by omega), meetS_r, mkS_no (by omega)]
        · rw [mkS_no (show min u v < max l m by omega), meetS_n]
          by_cases f : max m n ≤ min v x
          · rw [mkS_yes f, meetS_t h (by omega), mkS_no (by omega)]
          · rw [mkS_no (show min v x < max m n by omega), meetS_r]

theorem joinS_at {a b p : Bool} {al ah bl bh pl ph : Int} (h : joinS (a, al, ah) (b, bl, bh) = (p, pl, ph)) (w : World) : Calls Try.prog 64 #[.agg #[.bool a, .int .i64 al, .int .i64 ah], .agg #[.bool b, .int .i64 bl, .int .i64 bh]] w fun e w' => e = .returned (.agg #[.bool p, .int .i64 pl, .int .i64 ph]) ∧ Below w.heap.size w w' := join_at h w
theorem joinT_at {a b p : Bool} {al ah bl bh pl ph : Int} (h : joinS (a, al, ah) (b, bl, bh) = (p, pl, ph)) (w : World) : Calls Try.prog 88 #[.agg #[.bool a, .int .i64 al, .int .i64 ah], .agg #[.bool b, .int .i64 bl, .int .i64 bh]] w fun e w' => e = .returned (.agg #[.bool p, .int .i64 pl, .int .i64 ph]) ∧ Below w.heap.size w w' :=
  (join_spec a al ah b bl bh w).mono fun e w' ⟨h1, h2⟩ => ⟨by rw [show joinF a al ah b bl bh = (p, pl, ph) from h] at h1; exact h1, h2⟩
end Go.Proofs.Ytbmjjmbimfdkoaa
