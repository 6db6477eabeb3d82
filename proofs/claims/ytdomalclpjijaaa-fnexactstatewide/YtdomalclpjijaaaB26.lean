import Derived.Test.YtdomalclpjijaaaB19
import Derived.Test.YtdomalclpjijaaaB20
import Derived.Test.YtdomalclpjijaaaB23
import Derived.Test.YtdomalclpjijaaaB25
import Derived.Test.YtdomalclpjijaaaB21
/-
  Plain mathematics: join and meet of ok spans fit together.
-/
namespace Go.Proofs.Ytdomalclpjijaaa
open Go.RowKit
set_option linter.unusedVariables false
set_option linter.unusedSimpArgs false

theorem ok_cases {a : Bool} {l u : Int} (h : okF a l u = true) : (a, l, u) = noSp ∨ (a = true ∧ -16 ≤ l ∧ l ≤ u ∧ u ≤ 15) := by
  cases a
  · simp [okF] at h; left; obtain ⟨rfl, rfl⟩ := h; rfl
  · simp [okF] at h; right; refine ⟨rfl, ?_⟩; omega
theorem okw {l u : Int} (h1 : -16 ≤ l) (h2 : l ≤ u) (h3 : u ≤ 15) : okF true l u = true := by simp [okF]; omega
theorem okn : okF false 0 0 = true := rfl
theorem jn_t {al ah bl bh : Int} (h : okF true al ah = true) (k : okF true bl bh = true) : joinF true al ah true bl bh = (true, min al bl, max ah bh) := by simp [joinF, h, k]
theorem jn_n {b : Bool} {bl bh : Int} (k : okF b bl bh = true) : joinF false 0 0 b bl bh = (b, bl, bh) := by simp [joinF, k, okn]
theorem jn_r {al ah : Int} (h : okF true al ah = true) : joinF true al ah false 0 0 = (true, al, ah) := by simp [joinF, h, okn]
theorem mt_t {al ah bl bh : Int} (h : okF true al ah = true) (k : okF true bl bh = true) : meetF true al ah true bl bh = mkF (max al bl) (min ah bh) := by simp [meetF, bothF, h, k]
theorem mt_n {b : Bool} {bl bh : Int} : meetF false 0 0 b bl bh = noSp := by simp [meetF, bothF]
theorem mt_r {a : Bool} {al ah : Int} : meetF a al ah false 0 0 = noSp := by simp [meetF, bothF]
theorem mkS_no {l u : Int} (h : u < l) : mkF l u = noSp := by simp [mkF, h]
theorem mkS_yes {l u : Int} (h : l ≤ u) : mkF l u = (true, l, u) := by simp [mkF]; omega

def joinS (s t : Sp) : Sp := joinF s.1 s.2.1 s.2.2 t.1 t.2.1 t.2.2
def meetS (s t : Sp) : Sp := meetF s.1 s.2.1 s.2.2 t.1 t.2.1 t.2.2
def okS (s : Sp) : Prop := s = noSp ∨ ∃ l u : Int, s = (true, l, u) ∧ -16 ≤ l ∧ l ≤ u ∧ u ≤ 15

theorem okS_of {a : Bool} {l u : Int} (h : okF a l u = true) : okS (a, l, u) := by
  rcases ok_cases h with k | ⟨rfl, k⟩
  · exact .inl k
  · exact .inr ⟨l, u, rfl, by assumption⟩

theorem joinS_n {t : Sp} (h : okS t) : joinS noSp t = t := by
  rcases h with rfl | ⟨l, u, rfl, h1, h2, h3⟩
  · rfl
  · exact jn_n (okw h1 h2 h3)
theorem joinS_r {t : Sp} (h : okS t) : joinS t noSp = t := by
  rcases h with rfl | ⟨l, u, rfl, h1, h2, h3⟩
  · rfl
  · exact jn_r (okw h1 h2 h3)
theorem joinS_t {l u m v : Int} (h : -16 ≤ l ∧ l ≤ u ∧ u ≤ 15) (k : -16 ≤ m ∧ m ≤ v ∧ v ≤ 15) : joinS (true, l, u) (true, m, v) = (true, min l m, max u v) := jn_t (okw h.1 h.2.1 h.2.2) (okw k.1 k.2.1 k.2.2)
theorem meetS_n (t : Sp) : meetS noSp t = noSp := mt_n
theorem meetS_r (t : Sp) : meetS t noSp = noSp := mt_r
theorem meetS_t {l u m v : Int} (h : -16 ≤ l ∧ l ≤ u ∧ u ≤ 15) (k : -16 ≤ m ∧ m ≤ v ∧ v ≤ 15) : meetS (true, l, u) (true, m, v) = mkF (max l m) (min u v) := mt_t (okw h.1 h.2.1 h.2.2) (okw k.1 k.2.1 k.2.2)

theorem absorb1 {s t : Sp} (hs : okS s) (ht : okS t) : meetS s (joinS s t) = s := by
  rcases hs with rfl | ⟨l, u, rfl, h⟩
  · rw [meetS_n]
  · rcases ht with rfl | ⟨m, v, rfl, k⟩
    · rw [joinS_r (.inr ⟨l, u, rfl, h⟩), meetS_t h h, mkS_yes (by omega)]; simp
    · rw [joinS_t h k, meetS_t h (by omega), mkS_yes (by omega)]
      simp only [Prod.mk.injEq, true_and]; omega
theorem absorb2 {s t : Sp} (hs : okS s) (ht : okS t) : joinS s (meetS s t) = s := by
  rcases hs with rfl | ⟨l, u, rfl, h⟩
  · rw [meetS_n]; rfl
  · rcases ht with rfl | ⟨m, v, rfl, k⟩
    · rw [meetS_r, joinS_r (.inr ⟨l, u, rfl, h⟩)]
    · rw [meetS_t h k]
      by_cases e : max l m ≤ min u v
      · rw [mkS_yes e, joinS_t h (by omega)]; simp only [Prod.mk.injEq, true_and]; omega
      · rw [mkS_no (by omega), joinS_r (.inr ⟨l, u, rfl, h⟩)]
theorem okS_join {s t : Sp} (hs : okS s) (ht : okS t) : okS (joinS s t) := by
  rcases hs with rfl | ⟨l, u, rfl, h⟩
  · rw [joinS_n ht]; exact ht
  · rcases ht with rfl | ⟨m, v, rfl, k⟩
    · rw [joinS_r (.inr ⟨l, u, rfl, h⟩)]; exact .inr ⟨l, u, rfl, h⟩
    · rw [joinS_t h k]; exact .inr ⟨_, _, rfl, by omega⟩
theorem okS_mk {l u : Int} (h : -16 ≤ l) (k : u ≤ 15) : okS (mkF l u) := by
  by_cases e : l ≤ u
  · rw [mkS_yes e]; exact .inr ⟨_, _, rfl, by omega⟩
  · rw [mkS_no (by omega)]; exact .inl rfl
theorem joinS_assoc {s t r : Sp} (hs : okS s) (ht : okS t) (hr : okS r) : joinS (joinS s t) r = joinS s (joinS t r) := by
  rcases hs with rfl | ⟨l, u, rfl, h⟩
  · rw [joinS_n ht, joinS_n (okS_join ht hr)]
  · rcases ht with rfl | ⟨m, v, rfl, k⟩
    · rw [joinS_r (.inr ⟨l, u, rfl, h⟩), joinS_n hr]
    · rcases hr with rfl | ⟨n, x, rfl, j⟩
      · rw [joinS_r (okS_join (.inr ⟨l, u, rfl, h⟩) (.inr ⟨m, v, rfl, k⟩)), joinS_r (.inr ⟨m, v, rfl, k⟩)]
      · rw [joinS_t h k, joinS_t k j, joinS_t (by omega) j, joinS_t h (by omega)]
        simp only [Prod.mk.injEq, true_and]; omega
theorem meetS_assoc {s t r : Sp} (hs : okS s) (ht : okS t) (hr : okS r) : meetS (meetS s t) r = meetS s (meetS t r) := by
  rcases hs with rfl | ⟨l, u, rfl, h⟩
  · rw [meetS_n, meetS_n, meetS_n]
  · rcases ht with rfl | ⟨m, v, rfl, k⟩
    · rw [meetS_r, meetS_n, meetS_r]
    · rcases hr with rfl | ⟨n, x, rfl, j⟩
      · rw [meetS_r, meetS_r, meetS_r]
      · rw [meetS_t h k, meetS_t k j]
        by_cases e : max l m ≤ min u v
        · rw [mkS_yes e, meetS_t (by omega) j]
          by_cases f : max m n ≤ min v x
          · rw [mkS_yes f, meetS_t h (by omega)]
            by_cases g : max (max l m) n ≤ min (min u v) x
            · rw [mkS_yes g, mkS_yes (by omega)]; simp only [Prod.mk.injEq, true_and]; omega
            · rw [mkS_no (by omega), mkS_no (by omega)]
          · rw [mkS_no (show min v x < max m n by omega), meetS_r, mkS_no (by omega)]
        · rw [mkS_no (show min u v < max l m by omega), meetS_n]
          by_cases f : max m n ≤ min v x
          · rw [mkS_yes f, meetS_t h (by omega), mkS_no (by omega)]
          · rw [mkS_no (show min v x < max m n by omega), meetS_r]

theorem joinS_at {a b p : Bool} {al ah bl bh pl ph : Int} (h : joinS (a, al, ah) (b, bl, bh) = (p, pl, ph)) (w : World) : Calls Try.prog 35 #[.agg #[.bool a, .int .i64 al, .int .i64 ah], .agg #[.bool b, .int .i64 bl, .int .i64 bh]] w fun e w' => e = .returned (.agg #[.bool p, .int .i64 pl, .int .i64 ph]) ∧ Below w.heap.size w w' := join_at h w
theorem joinT_at {a b p : Bool} {al ah bl bh pl ph : Int} (h : joinS (a, al, ah) (b, bl, bh) = (p, pl, ph)) (w : World) : Calls Try.prog 68 #[.agg #[.bool a, .int .i64 al, .int .i64 ah], .agg #[.bool b, .int .i64 bl, .int .i64 bh]] w fun e w' => e = .returned (.agg #[.bool p, .int .i64 pl, .int .i64 ph]) ∧ Below w.heap.size w w' :=
  (join_spec a al ah b bl bh w).mono fun e w' ⟨h1, h2⟩ => ⟨by rw [show joinF a al ah b bl bh = (p, pl, ph) from h] at h1; exact h1, h2⟩
end Go.Proofs.Ytdomalclpjijaaa

/-
  What the join of two states, and the hurried one, are: plain functions; the model's l11Span.
-/
namespace Go.Proofs.Ytdomalclpjijaaa
open Go.RowKit
set_option linter.unusedVariables false
set_option linter.unusedSimpArgs false

def wideS (s t : Sp) : Sp := wideF s.1 s.2.1 s.2.2 t.1 t.2.1 t.2.2
/-- a span of two, in a hurry, or not -/
def spF (wd : Bool) (s t : Sp) : Sp := if wd = true then wideS s t else joinS s t
def row3 (wd : Bool) (L M : List Sp) : List Sp := [spF wd (L.getD 0 noSp) (M.getD 0 noSp), spF wd (L.getD 1 noSp) (M.getD 1 noSp), spF wd (L.getD 2 noSp) (M.getD 2 noSp)]
/-- a state of two, in a hurry, or not -/
def stBoth (wd : Bool) (a : Bool) (L : List Sp) (c : Sp) (b : Bool) (M : List Sp) (d : Sp) : St :=
  if (stOk a L c && stOk b M d) = true then (if a = true then (if b = true then (true, row3 wd L M, spF wd c d) else (a, L, c)) else (b, M, d)) else noSt
/-- a state is handed back, in memory of its own -/
def StAt (r : St) (x : World) (e : Ending) (y : World) : Prop :=
  ∃ v, e = .returned (.agg #[.bool r.1, v, .bool r.2.2.1, .int .i64 r.2.2.2.1, .int .i64 r.2.2.2.2]) ∧ SpsAt true y x.heap.size y.heap.size v r.2.1 ∧ Below x.heap.size x y
theorem stOk_len0 {L : List Sp} {c : Sp} {a : Bool} (h : stOk a L c = true) : L.length = 0 ∨ L.length = 3 := by
  cases a
  · unfold stOk at h; simp at h; exact .inl (by simp [h.1])
  · exact .inr (stOk_len' h)
theorem stB_no {wd a : Bool} {L : List Sp} {c : Sp} {b : Bool} {M : List Sp} {d : Sp} (h : (stOk a L c && stOk b M d) = false) : stBoth wd a L c b M d = noSt := by unfold stBoth; rw [h]; rfl
theorem stB_fst {wd a : Bool} {L : List Sp} {c : Sp} {M : List Sp} {d : Sp} (h : stOk a L c = true) (k : stOk false M d = true) (ha : a = true) : stBoth wd a L c false M d = (a, L, c) := by unfold stBoth; rw [h, k, ha]; rfl
theorem stB_snd {wd : Bool} {L : List Sp} {c : Sp} {b : Bool} {M : List Sp} {d : Sp} (h : stOk false L c = true) (k : stOk b M d = true) : stBoth wd false L c b M d = (b, M, d) := by unfold stBoth; rw [h, k]; rfl
theorem stB_all {wd : Bool} {L : List Sp} {c : Sp} {M : List Sp} {d : Sp} (h : stOk true L c = true) (k : stOk true M d = true) : stBoth wd true L c true M d = (true, row3 wd L M, spF wd c d) := by unfold stBoth; rw [h, k]; rfl

theorem wideS_at {a b p : Bool} {al ah bl bh pl ph : Int} (h : wideS (a, al, ah) (b, bl, bh) = (p, pl, ph)) (w : World) : Calls Try.prog 67 #[.agg #[.bool a, .int .i64 al, .int .i64 ah], .agg #[.bool b, .int .i64 bl, .int .i64 bh]] w fun e w' => e = .returned (.agg #[.bool p, .int .i64 pl, .int .i64 ph]) ∧ Below w.heap.size w w' := wideT_at h w
set_option maxHeartbeats 1000000 in
theorem l11Span_at {wd a b p : Bool} {al ah bl bh pl ph : Int} (h : spF wd (a, al, ah) (b, bl, bh) = (p, pl, ph)) (w : World) : Calls Try.prog 55 #[.agg #[.bool a, .int .i64 al, .int .i64 ah], .agg #[.bool b, .int .i64 bl, .int .i64 bh], .bool wd] w fun e w' => e = .returned (.agg #[.bool p, .int .i64 pl, .int .i64 ph]) ∧ Below w.heap.size w w' := by
  have hbW : Below w.heap.size w (((w.alloc (.cells #[.bool a, .int .i64 al, .int .i64 ah] 29)).alloc (.cells #[.bool b, .int .i64 bl, .int .i64 bh] 29)).alloc (.cells #[.bool false, .int .i64 0, .int .i64 0] 29)) := by go_grown
  cases wd
  · have h2 : joinS (a, al, ah) (b, bl, bh) = (p, pl, ph) := h
    go_enter Try.func55, Try.ntmps55
    go_wp2_with fail
    refine (joinT_at h2 _).mono ?_
    rintro e w1 ⟨rfl, hb1⟩
    obtain ⟨p1, q1, r1, f1, g1, h1⟩ := cell3 hb1 (w.heap.size + 1 + 1) (by simp)
    simp [go_sem] at p1 q1 r1 f1 g1 h1
    go_wp2_with fail
    refine bodyPost_ret (v := .agg #[.bool p, .int .i64 pl, .int .i64 ph]) (by simp [results, Try.results55, go_sem, p1, q1, r1, f1, g1, h1]) rfl ⟨rfl, ?_⟩
    repeat (refine Below.setCell ?_ (by simp <;> omega) _)
    exact hbW.trans (hb1.mono hbW.size)
  · have h2 : wideS (a, al, ah) (b, bl, bh) = (p, pl, ph) := h
    go_enter Try.func55, Try.ntmps55
    go_wp2_with fail
    refine (wideS_at h2 _).mono ?_
    rintro e w1 ⟨rfl, hb1⟩
    obtain ⟨p1, q1, r1, f1, g1, h1⟩ := cell3 hb1 (w.heap.size + 1 + 1) (by simp)
    simp [go_sem] at p1 q1 r1 f1 g1 h1
    go_wp2_with fail
    refine bodyPost_ret (v := .agg #[.bool p, .int .i64 pl, .int .i64 ph]) (by simp [results, Try.results55, go_sem, p1, q1, r1, f1, g1, h1]) rfl ⟨rfl, ?_⟩
    repeat (refine Below.setCell ?_ (by simp <;> omega) _)
    exact hbW.trans (hb1.mono hbW.size)
end Go.Proofs.Ytdomalclpjijaaa
