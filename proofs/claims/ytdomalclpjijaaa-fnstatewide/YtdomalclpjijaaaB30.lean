import Derived.Test.YtdomalclpjijaaaB27
import Derived.Test.YtdomalclpjijaaaB29
import Derived.Test.YtdomalclpjijaaaB4
/-
  The order of states and their joins: plain facts.
-/
namespace Go.Proofs.Ytdomalclpjijaaa
open Go.RowKit
set_option linter.unusedVariables false
set_option linter.unusedSimpArgs false

theorem some_form {s : Sp} (h : someF s = true) : ∃ l u, s = (true, l, u) ∧ -16 ≤ l ∧ l ≤ u ∧ u ≤ 15 := by
  obtain ⟨a, l, u⟩ := s
  unfold someF at h
  simp only [Bool.and_eq_true] at h
  obtain ⟨h1, h2⟩ := h
  subst h1
  have := okF_bd h2
  exact ⟨l, u, rfl, this.1, this.2.2.2.2, this.2.2.2.1⟩
theorem some_mk {l u : Int} (h1 : -16 ≤ l) (h2 : l ≤ u) (h3 : u ≤ 15) : someF (true, l, u) = true := by
  unfold someF; simp [okw h1 h2 h3]
/-- a state that is ok: none, or three registers and cells that are some -/
theorem ok_form {a : Bool} {L : List Sp} {c : Sp} (h : stOk a L c = true) : (a = false ∧ L = [] ∧ c = noSp) ∨ (a = true ∧ ∃ s0 s1 s2, L = [s0, s1, s2] ∧ someF s0 = true ∧ someF s1 = true ∧ someF s2 = true ∧ someF c = true) := by
  cases a
  · unfold stOk at h
    simp at h
    exact .inl ⟨rfl, h.1, h.2⟩
  · have hl := stOk_len' h
    obtain ⟨s0, s1, s2, rfl⟩ := three_of hl
    unfold stOk at h
    simp at h
    exact .inr ⟨rfl, s0, s1, s2, rfl, h.1.1, h.1.2.1, h.1.2.2, h.2⟩
theorem ok_some {s0 s1 s2 c : Sp} (h0 : someF s0 = true) (h1 : someF s1 = true) (h2 : someF s2 = true) (h3 : someF c = true) : stOk true [s0, s1, s2] c = true := by
  simp [stOk, h0, h1, h2, h3]
theorem ok_none : stOk false [] noSp = true := by simp [stOk]
theorem inS_of {l u m v : Int} (h : -16 ≤ l ∧ l ≤ u ∧ u ≤ 15) (k : -16 ≤ m ∧ m ≤ v ∧ v ≤ 15) : inS (true, l, u) (true, m, v) = decide (m ≤ l ∧ u ≤ v) := by
  unfold inS inF
  simp [okw h.1 h.2.1 h.2.2, okw k.1 k.2.1 k.2.2]
theorem inst_none {a : Bool} {L : List Sp} {c : Sp} (h : stOk a L c = true) : stIn false [] noSp a L c = true := by simp [stIn, ok_none, h]
theorem inst_to_none {a : Bool} {L : List Sp} {c : Sp} (h : stOk a L c = true) : stIn a L c false [] noSp = !a := by simp [stIn, ok_none, h]
theorem inst_some {s0 s1 s2 c t0 t1 t2 d : Sp} (h : stOk true [s0, s1, s2] c = true) (k : stOk true [t0, t1, t2] d = true) : stIn true [s0, s1, s2] c true [t0, t1, t2] d = (inS s0 t0 && inS s1 t1 && inS s2 t2 && inS c d) := by
  unfold stIn
  rw [h, k]
  simp [upto, pairF, List.range_succ, Bool.and_assoc]
theorem inS_refl {s : Sp} (h : someF s = true) : inS s s = true := by
  obtain ⟨l, u, rfl, bs⟩ := some_form h
  rw [inS_of bs bs]; simp
theorem inS_trans {s t r : Sp} (hs : someF s = true) (ht : someF t = true) (hr : someF r = true) (h : inS s t = true) (k : inS t r = true) : inS s r = true := by
  obtain ⟨l, u, rfl, bs⟩ := some_form hs
  obtain ⟨m, v, rfl, bt⟩ := some_form ht
  obtain ⟨n, x, rfl, br⟩ := some_form hr
  rw [inS_of bs bt] at h
  rw [inS_of bt br] at k
  rw [inS_of bs br]
  simp at h k ⊢
  omega
theorem inS_anti {s t : Sp} (hs : someF s = true) (ht : someF t = true) (h : inS s t = true) (k : inS t s = true) : s = t := by
  obtain ⟨l, u, rfl, bs⟩ := some_form hs
  obtain ⟨m, v, rfl, bt⟩ := some_form ht
  rw [inS_of bs bt] at h
  rw [inS_of bt bs] at k
  simp at h k ⊢
  omega

theorem stIn_refl {a : Bool} {L : List Sp} {c : Sp} (h : stOk a L c = true) : stIn a L c a L c = true := by
  rcases ok_form h with ⟨rfl, rfl, rfl⟩ | ⟨rfl, s0, s1, s2, rfl, h0, h1, h2, h3⟩
  · exact inst_none h
  · rw [inst_some h h, inS_refl h0, inS_refl h1, inS_refl h2, inS_refl h3]; rfl
theorem stIn_trans {a b e : Bool} {L M N : List Sp} {c d f : Sp} (h1 : stOk a L c = true) (h2 : stOk b M d = true) (h3 : stOk e N f = true) (h : stIn a L c b M d = true) (k : stIn b M d e N f = true) : stIn a L c e N f = true := by
  rcases ok_form h1 with ⟨rfl, rfl, rfl⟩ | ⟨rfl, s0, s1, s2, rfl, p0, p1, p2, p3⟩
  · exact inst_none h3
  rcases ok_form h2 with ⟨rfl, rfl, rfl⟩ | ⟨rfl, t0, t1, t2, rfl, q0, q1, q2, q3⟩
  · rw [inst_to_none h1] at h; cases h
  rcases ok_form h3 with ⟨rfl, rfl, rfl⟩ | ⟨rfl, r0, r1, r2, rfl, w0, w1, w2, w3⟩
  · rw [inst_to_none h2] at k; cases k
  rw [inst_some h1 h2] at h
  rw [inst_some h2 h3] at k
  rw [inst_some h1 h3]
  simp only [Bool.and_eq_true] at h k ⊢
  exact ⟨⟨⟨inS_trans p0 q0 w0 h.1.1.1 k.1.1.1, inS_trans p1 q1 w1 h.1.1.2 k.1.1.2⟩, inS_trans p2 q2 w2 h.1.2 k.1.2⟩, inS_trans p3 q3 w3 h.2 k.2⟩
theorem stIn_anti {a b : Bool} {L M : List Sp} {c d : Sp} (h1 : stOk a L c = true) (h2 : stOk b M d = true) (h : stIn a L c b M d = true) (k : stIn b M d a L c = true) : stEq a L c b M d = true := by
  rcases ok_form h1 with ⟨rfl, rfl, rfl⟩ | ⟨rfl, s0, s1, s2, rfl, p0, p1, p2, p3⟩
  · rcases ok_form h2 with ⟨rfl, rfl, rfl⟩ | ⟨rfl, t0, t1, t2, rfl, q0, q1, q2, q3⟩
    · exact stEq_yes _ _ _
    · rw [inst_to_none h2] at k; cases k
  rcases ok_form h2 with ⟨rfl, rfl, rfl⟩ | ⟨rfl, t0, t1, t2, rfl, q0, q1, q2, q3⟩
  · rw [inst_to_none h1] at h; cases h
  rw [inst_some h1 h2] at h
  rw [inst_some h2 h1] at k
  simp only [Bool.and_eq_true] at h k
  rw [inS_anti p0 q0 h.1.1.1 k.1.1.1, inS_anti p1 q1 h.1.1.2 k.1.1.2, inS_anti p2 q2 h.1.2 k.1.2, inS_anti p3 q3 h.2 k.2]
  exact stEq_yes _ _ _

/-! ### the join -/
theorem joinS_of {l u m v : Int} (h : -16 ≤ l ∧ l ≤ u ∧ u ≤ 15) (k : -16 ≤ m ∧ m ≤ v ∧ v ≤ 15) : joinS (true, l, u) (true, m, v) = (true, min l m, max u v) := joinS_t h k
theorem joinS_ok {s t : Sp} (hs : someF s = true) (ht : someF t = true) : someF (joinS s t) = true := by
  obtain ⟨l, u, rfl, bs⟩ := some_form hs
  obtain ⟨m, v, rfl, bt⟩ := some_form ht
  rw [joinS_of bs bt]
  exact some_mk (by omega) (by omega) (by omega)
theorem join_upper {s t : Sp} (hs : someF s = true) (ht : someF t = true) : inS s (joinS s t) = true ∧ inS t (joinS s t) = true ∧ joinS t s = joinS s t := by
  obtain ⟨l, u, rfl, bs⟩ := some_form hs
  obtain ⟨m, v, rfl, bt⟩ := some_form ht
  rw [joinS_of bs bt, joinS_of bt bs, inS_of bs ⟨by omega, by omega, by omega⟩, inS_of bt ⟨by omega, by omega, by omega⟩]
  refine ⟨by simp; omega, by simp; omega, ?_⟩
  rw [Int.min_comm, Int.max_comm]
theorem join_lub {s t r : Sp} (hs : someF s = true) (ht : someF t = true) (hr : someF r = true) (h : inS s r = true) (k : inS t r = true) : inS (joinS s t) r = true := by
  obtain ⟨l, u, rfl, bs⟩ := some_form hs
  obtain ⟨m, v, rfl, bt⟩ := some_form ht
  obtain ⟨n, x, rfl, br⟩ := some_form hr
  rw [inS_of bs br] at h
  rw [inS_of bt br] at k
  rw [joinS_of bs bt, inS_of ⟨by omega, by omega, by omega⟩ br]
  simp at h k ⊢
  omega
theorem join_assoc {s t r : Sp} (hs : someF s = true) (ht : someF t = true) (hr : someF r = true) : joinS (joinS s t) r = joinS s (joinS t r) := by
  obtain ⟨l, u, rfl, bs⟩ := some_form hs
  obtain ⟨m, v, rfl, bt⟩ := some_form ht
  obtain ⟨n, x, rfl, br⟩ := some_form hr
  rw [joinS_of bs bt, joinS_of bt br, joinS_of ⟨by omega, by omega, by omega⟩ br, joinS_of bs ⟨by omega, by omega, by omega⟩, Int.min_assoc, Int.max_assoc]

def stJ (a : Bool) (L : List Sp) (c : Sp) (b : Bool) (M : List Sp) (d : Sp) : St := stBoth false a L c b M d
theorem stJ_none {b : Bool} {M : List Sp} {d : Sp} (h : stOk b M d = true) : stJ false [] noSp b M d = (b, M, d) := stB_snd ok_none h
theorem stJ_none_r {a : Bool} {L : List Sp} {c : Sp} (h : stOk a L c = true) : stJ a L c false [] noSp = (a, L, c) := by
  cases a
  · rcases ok_form h with ⟨_, rfl, rfl⟩ | ⟨h0, _⟩
    · exact stJ_none ok_none
    · cases h0
  · exact stB_fst h ok_none rfl
theorem stJ_some {s0 s1 s2 c t0 t1 t2 d : Sp} (h : stOk true [s0, s1, s2] c = true) (k : stOk true [t0, t1, t2] d = true) : stJ true [s0, s1, s2] c true [t0, t1, t2] d = (true, [joinS s0 t0, joinS s1 t1, joinS s2 t2], joinS c d) := stB_all h k
/-- what is known of the join of two states that are ok -/
theorem stJ_facts {a b : Bool} {L M : List Sp} {c d : Sp} (h1 : stOk a L c = true) (h2 : stOk b M d = true) {e : Bool} {N : List Sp} {f : Sp} (hj : stJ a L c b M d = (e, N, f)) :
    stOk e N f = true ∧ stIn a L c e N f = true ∧ stIn b M d e N f = true ∧ stJ b M d a L c = (e, N, f) := by
  rcases ok_form h1 with ⟨rfl, rfl, rfl⟩ | ⟨rfl, s0, s1, s2, rfl, p0, p1, p2, p3⟩
  · rw [stJ_none h2] at hj
    cases hj
    exact ⟨h2, inst_none h2, stIn_refl h2, stJ_none_r h2⟩
  rcases ok_form h2 with ⟨rfl, rfl, rfl⟩ | ⟨rfl, t0, t1, t2, rfl, q0, q1, q2, q3⟩
  · rw [stJ_none_r h1] at hj
    cases hj
    exact ⟨h1, stIn_refl h1, inst_none h1, stJ_none h1⟩
  rw [stJ_some h1 h2] at hj
  cases hj
  have hk := ok_some (joinS_ok p0 q0) (joinS_ok p1 q1) (joinS_ok p2 q2) (joinS_ok p3 q3)
  obtain ⟨x0, y0, z0⟩ := join_upper p0 q0
  obtain ⟨x1, y1, z1⟩ := join_upper p1 q1
  obtain ⟨x2, y2, z2⟩ := join_upper p2 q2
  obtain ⟨x3, y3, z3⟩ := join_upper p3 q3
  refine ⟨hk, ?_, ?_, ?_⟩
  · rw [inst_some h1 hk, x0, x1, x2, x3]; rfl
  · rw [inst_some h2 hk, y0, y1, y2, y3]; rfl
  · rw [stJ_some h2 h1, z0, z1, z2, z3]
theorem stJ_lub {a b g : Bool} {L M N : List Sp} {c d f : Sp} (h1 : stOk a L c = true) (h2 : stOk b M d = true) (h3 : stOk g N f = true) {e : Bool} {K : List Sp} {k : Sp} (hj : stJ a L c b M d = (e, K, k)) (i1 : stIn a L c g N f = true) (i2 : stIn b M d g N f = true) : stIn e K k g N f = true := by
  rcases ok_form h1 with ⟨rfl, rfl, rfl⟩ | ⟨rfl, s0, s1, s2, rfl, p0, p1, p2, p3⟩
  · rw [stJ_none h2] at hj; cases hj; exact i2
  rcases ok_form h2 with ⟨rfl, rfl, rfl⟩ | ⟨rfl, t0, t1, t2, rfl, q0, q1, q2, q3⟩
  · rw [stJ_none_r h1] at hj; cases hj; exact i1
  rcases ok_form h3 with ⟨rfl, rfl, rfl⟩ | ⟨rfl, r0, r1, r2, rfl, w0, w1, w2, w3⟩
  · rw [inst_to_none h1] at i1; cases i1
  rw [stJ_some h1 h2] at hj
  cases hj
  have hk := ok_some (joinS_ok p0 q0) (joinS_ok p1 q1) (joinS_ok p2 q2) (joinS_ok p3 q3)
  rw [inst_some h1 h3] at i1
  rw [inst_some h2 h3] at i2
  rw [inst_some hk h3]
  simp only [Bool.and_eq_true] at i1 i2 ⊢
  exact ⟨⟨⟨join_lub p0 q0 w0 i1.1.1.1 i2.1.1.1, join_lub p1 q1 w1 i1.1.1.2 i2.1.1.2⟩, join_lub p2 q2 w2 i1.1.2 i2.1.2⟩, join_lub p3 q3 w3 i1.2 i2.2⟩
theorem stJ_assoc {a b g : Bool} {L M N : List Sp} {c d f : Sp} (h1 : stOk a L c = true) (h2 : stOk b M d = true) (h3 : stOk g N f = true) {e x : Bool} {K X : List Sp} {k y : Sp} (hj : stJ a L c b M d = (e, K, k)) (hx : stJ b M d g N f = (x, X, y)) : stJ e K k g N f = stJ a L c x X y := by
  rcases ok_form h1 with ⟨rfl, rfl, rfl⟩ | ⟨rfl, s0, s1, s2, rfl, p0, p1, p2, p3⟩
  · rw [stJ_none h2] at hj; cases hj
    rw [hx, stJ_none (stJ_facts h2 h3 hx).1]
  rcases ok_form h2 with ⟨rfl, rfl, rfl⟩ | ⟨rfl, t0, t1, t2, rfl, q0, q1, q2, q3⟩
  · rw [stJ_none_r h1] at hj; cases hj
    rw [stJ_none h3] at hx; cases hx; rfl
  rcases ok_form h3 with ⟨rfl, rfl, rfl⟩ | ⟨rfl, r0, r1, r2, rfl, w0, w1, w2, w3⟩
  · rw [stJ_none_r h2] at hx; cases hx
    rw [hj, stJ_none_r (stJ_facts h1 h2 hj).1]
  rw [stJ_some h1 h2] at hj
  rw [stJ_some h2 h3] at hx
  cases hj; cases hx
  rw [stJ_some (ok_some (joinS_ok p0 q0) (joinS_ok p1 q1) (joinS_ok p2 q2) (joinS_ok p3 q3)) h3, stJ_some h1 (ok_some (joinS_ok q0 w0) (joinS_ok q1 w1) (joinS_ok q2 w2) (joinS_ok q3 w3)), join_assoc p0 q0 w0, join_assoc p1 q1 w1, join_assoc p2 q2 w2, join_assoc p3 q3 w3]

/-! ### in a hurry -/
theorem down_bd (n : Int) (h : -16 ≤ n) : -16 ≤ downF n ∧ downF n ≤ n := by unfold downF; split <;> (try split) <;> omega
theorem up_bd (n : Int) (h : n ≤ 15) : n ≤ upF n ∧ upF n ≤ 15 := by unfold upF; split <;> (try split) <;> omega
theorem wideS_of {l u m v : Int} (h : -16 ≤ l ∧ l ≤ u ∧ u ≤ 15) (k : -16 ≤ m ∧ m ≤ v ∧ v ≤ 15) : wideS (true, l, u) (true, m, v) = (true, (if min l m < l then downF (min l m) else min l m), (if u < max u v then upF (max u v) else max u v)) := by
  unfold wideS wideF bothF
  simp [okw h.1 h.2.1 h.2.2, okw k.1 k.2.1 k.2.2]
theorem wide_facts {s t : Sp} (hs : someF s = true) (ht : someF t = true) : someF (wideS s t) = true ∧ inS (joinS s t) (wideS s t) = true ∧ (wideS s t = s ↔ inS t s = true) := by
  obtain ⟨l, u, rfl, bs⟩ := some_form hs
  obtain ⟨m, v, rfl, bt⟩ := some_form ht
  rw [wideS_of bs bt, joinS_of bs bt, inS_of bt bs]
  have d1 := down_bd (min l m) (by omega)
  have d2 := up_bd (max u v) (by omega)
  have hb : -16 ≤ (if min l m < l then downF (min l m) else min l m) ∧ (if min l m < l then downF (min l m) else min l m) ≤ (if u < max u v then upF (max u v) else max u v) ∧ (if u < max u v then upF (max u v) else max u v) ≤ 15 := by split <;> split <;> omega
  refine ⟨some_mk hb.1 hb.2.1 hb.2.2, ?_, ?_⟩
  · rw [inS_of ⟨by omega, by omega, by omega⟩ hb]
    simp only [decide_eq_true_eq]
    split <;> split <;> omega
  · simp only [decide_eq_true_eq, Prod.mk.injEq, true_and]
    split <;> split <;> omega
def stW (a : Bool) (L : List Sp) (c : Sp) (b : Bool) (M : List Sp) (d : Sp) : St := stBoth true a L c b M d
theorem stW_none {b : Bool} {M : List Sp} {d : Sp} (h : stOk b M d = true) : stW false [] noSp b M d = (b, M, d) := stB_snd ok_none h
theorem stW_none_r {a : Bool} {L : List Sp} {c : Sp} (h : stOk a L c = true) : stW a L c false [] noSp = (a, L, c) := by
  cases a
  · rcases ok_form h with ⟨_, rfl, rfl⟩ | ⟨h0, _⟩
    · exact stW_none ok_none
    · cases h0
  · exact stB_fst h ok_none rfl
theorem stW_some {s0 s1 s2 c t0 t1 t2 d : Sp} (h : stOk true [s0, s1, s2] c = true) (k : stOk true [t0, t1, t2] d = true) : stW true [s0, s1, s2] c true [t0, t1, t2] d = (true, [wideS s0 t0, wideS s1 t1, wideS s2 t2], wideS c d) := stB_all h k
theorem bool_same {x y : Bool} (h : x = true ↔ y = true) : x = y := by cases x <;> cases y <;> simp_all
theorem stW_facts {a b : Bool} {L M : List Sp} {c d : Sp} (h1 : stOk a L c = true) (h2 : stOk b M d = true) {e g : Bool} {N K : List Sp} {f k : Sp} (hw : stW a L c b M d = (e, N, f)) (hj : stJ a L c b M d = (g, K, k)) :
    stOk e N f = true ∧ stIn g K k e N f = true ∧ stEq e N f a L c = stIn b M d a L c := by
  rcases ok_form h1 with ⟨rfl, rfl, rfl⟩ | ⟨rfl, s0, s1, s2, rfl, p0, p1, p2, p3⟩
  · rw [stW_none h2] at hw; cases hw
    rw [stJ_none h2] at hj; cases hj
    refine ⟨h2, stIn_refl h2, ?_⟩
    rw [inst_to_none h2]
    rcases ok_form h2 with ⟨rfl, rfl, rfl⟩ | ⟨rfl, t0, t1, t2, rfl, _⟩
    · exact stEq_yes _ _ _
    · exact stEq_no (by simp)
  rcases ok_form h2 with ⟨rfl, rfl, rfl⟩ | ⟨rfl, t0, t1, t2, rfl, q0, q1, q2, q3⟩
  · rw [stW_none_r h1] at hw; cases hw
    rw [stJ_none_r h1] at hj; cases hj
    exact ⟨h1, stIn_refl h1, by rw [inst_none h1, stEq_yes]⟩
  rw [stW_some h1 h2] at hw
  rw [stJ_some h1 h2] at hj
  cases hw; cases hj
  obtain ⟨x0, y0, z0⟩ := wide_facts p0 q0
  obtain ⟨x1, y1, z1⟩ := wide_facts p1 q1
  obtain ⟨x2, y2, z2⟩ := wide_facts p2 q2
  obtain ⟨x3, y3, z3⟩ := wide_facts p3 q3
  have hk := ok_some x0 x1 x2 x3
  refine ⟨hk, ?_, ?_⟩
  · rw [inst_some (ok_some (joinS_ok p0 q0) (joinS_ok p1 q1) (joinS_ok p2 q2) (joinS_ok p3 q3)) hk, y0, y1, y2, y3]; rfl
  · rw [inst_some h2 h1]
    refine bool_same ?_
    simp only [stEq, decide_eq_true_eq, true_and, List.cons.injEq, and_true, Bool.and_eq_true]
    rw [z0, z1, z2, z3]
    constructor
    · rintro ⟨h3, h0, h1, h2⟩; exact ⟨⟨⟨h0, h1⟩, h2⟩, h3⟩
    · rintro ⟨⟨⟨h0, h1⟩, h2⟩, h3⟩; exact ⟨h3, h0, h1, h2⟩
end Go.Proofs.Ytdomalclpjijaaa

/-
  The contracts of the reader of codes (open, pick): it hands back a number in its range and turns nothing but its own place.
-/
namespace Go.Proofs.Ytdomalclpjijaaa
open Go.RowKit
set_option linter.unusedVariables false
set_option linter.unusedSimpArgs false

/-- what is told of a row of bytes that came in -/
def IsRow (w : World) (a : Option Addr) (len cap : Nat) (zs : List Int) : Prop :=
  (a = none ∧ len = 0 ∧ cap = 0 ∧ zs = []) ∨
  ∃ x, a = some x ∧ len ≤ cap ∧ cap ≤ maxLen ∧ zs.length = cap ∧ (∀ i, i < zs.length → w.cell? (x.add i) = some (.int .u8 (zs.getD i 0))) ∧ ∀ n ∈ zs, (Lit.int .u8 n).wf = true

/-- a reader lies at block r: its slice, its place (at most B) -/
structure Rd (x : World) (r B : Nat) : Prop where
  it : ∃ (a : Option Addr) (len cap : Nat) (p : Int), x.cell? ⟨r, 0, none⟩ = some (.slice a len cap) ∧ x.cell? ⟨r, 1, none⟩ = some (.int .i64 p) ∧ 0 ≤ p ∧ p ≤ B ∧ len ≤ 2000 ∧ x.frozen? ⟨r, 1, none⟩ = false ∧ r < x.heap.size ∧
    (len = 0 ∨ ∃ (b off : Nat) (zs : List Int), a = some ⟨b, off, none⟩ ∧ b < r ∧ len ≤ zs.length ∧ ∀ j, j < len → x.cell? ⟨b, off + j, none⟩ = some (.int .u8 (zs.getD j 0)) ∧ 0 ≤ zs.getD j 0 ∧ zs.getD j 0 ≤ 255)

/-- nothing has turned but the reader's own place; new memory may have been laid -/
structure Drawn (r B : Nat) (x y : World) : Prop where
  size : x.heap.size ≤ y.heap.size
  cell : ∀ b o, b ≠ r → b < x.heap.size → y.cell? ⟨b, o, none⟩ = x.cell? ⟨b, o, none⟩
  frozen : ∀ b o, b ≠ r → b < x.heap.size → y.frozen? ⟨b, o, none⟩ = x.frozen? ⟨b, o, none⟩
  below : Below r x y
  rd : Rd y r B
  blk : ∀ b, b ≠ r → b < x.heap.size → y.heap[b]? = x.heap[b]?

theorem Drawn.drewOne {r B : Nat} {x y : World} (h : Drawn r B x y) : Drawn r B x y.drew :=
  ⟨h.size, h.cell, h.frozen, h.below.drew, ⟨h.rd.it⟩, h.blk⟩
theorem Drawn.drewN {r B : Nat} {x y : World} (h : Drawn r B x y) (n : Nat) : Drawn r B x (y.drewN n) := by
  induction n with
  | zero => exact h
  | succ n ih => exact ih.drewOne
theorem drawn_set {x : World} {r B : Nat} {p : Int} (h : Rd x r B) (hp : x.cell? ⟨r, 1, none⟩ = some (.int .i64 p)) : Drawn r (B + 1) x (x.setCell ⟨r, 1, none⟩ (.int .i64 (p + 1))) := by
  obtain ⟨a, len, cap, p', c0, c1, p0, p1, hl, hf, hr, hrow⟩ := h.it
  obtain rfl : p' = p := by rw [hp] at c1; simpa using c1.symm
  have hb : Below r x (x.setCell ⟨r, 1, none⟩ (.int .i64 (p' + 1))) := (Below.refl r x).setCell (p := ⟨r, 1, none⟩) (Nat.le_refl _) _
  have hz : (x.setCell ⟨r, 1, none⟩ (.int .i64 (p' + 1))).heap.size = x.heap.size := by simp
  refine ⟨by omega, ?_, ?_, hb, ⟨a, len, cap, p' + 1, ?_, ?_, by omega, by omega, hl, ?_, by omega, ?_⟩, fun b hne _ => Below.heap_setCell x ⟨r, 1, none⟩ _ b hne⟩
  · intro b o hne _
    simp [go_sem, hne]
  · intro b o hne _
    simp [go_sem, hne]
  · simp [go_sem, c0]
  · simp [go_sem, c1]
  · simp [go_sem, hf]
  · rcases hrow with h0 | ⟨b, off, zs, e, hlt, hz', hcell⟩
    · exact .inl h0
    · refine .inr ⟨b, off, zs, e, hlt, hz', fun j hj => ?_⟩
      obtain ⟨e1, e2, e3⟩ := hcell j hj
      exact ⟨(hb.cell (p := ⟨b, off + j, none⟩) hlt).trans e1, e2, e3⟩

theorem xor_nonneg (a b : Int) (h1 : 0 ≤ a) (h2 : a < 4611686018427387904) (h3 : 0 ≤ b) (h4 : b < 4611686018427387904) : 0 ≤ bits .xor .i64 a b := by
  obtain ⟨A, rfl⟩ := Int.eq_ofNat_of_zero_le h1
  obtain ⟨B, rfl⟩ := Int.eq_ofNat_of_zero_le h3
  have hx : A ^^^ B < 2 ^ 62 := Nat.xor_lt_two_pow (by omega) (by omega)
  have e1 : (BitVec.ofInt 64 (A : Int)).toNat = A := by
    rw [BitVec.ofInt_natCast, BitVec.toNat_ofNat]; exact Nat.mod_eq_of_lt (by omega)
  have e2 : (BitVec.ofInt 64 (B : Int)).toNat = B := by
    rw [BitVec.ofInt_natCast, BitVec.toNat_ofNat]; exact Nat.mod_eq_of_lt (by omega)
  show 0 ≤ IntKind.i64.wrap ((BitVec.ofInt 64 (A : Int) ^^^ BitVec.ofInt 64 (B : Int)).toNat : Int)
  rw [BitVec.toNat_xor, e1, e2, IntKind.wrap_i64]
  omega
theorem mix_nonneg (z y k d : Int) (z0 : 0 ≤ z) (z1 : z ≤ 255) (y0 : 0 ≤ y) (y1 : y ≤ 255) (k0 : 0 ≤ k) (k1 : k ≤ 100000) (d0 : 0 ≤ d) (d1 : d ≤ k) :
    0 ≤ bits .xor .i64 (wrap64 (z * 131 + y * 1117 + k * 29 + wrap64 (wrap64 d * 53))) (wrap64 ((wrap64 (z * 131 + y * 1117 + k * 29 + wrap64 (wrap64 d * 53))).tdiv 64)) := by
  have e : wrap64 (z * 131 + y * 1117 + k * 29 + wrap64 (wrap64 d * 53)) = z * 131 + y * 1117 + k * 29 + d * 53 := by unfold wrap64; omega
  rw [e]
  have e2 : (z * 131 + y * 1117 + k * 29 + d * 53).tdiv 64 = (z * 131 + y * 1117 + k * 29 + d * 53) / 64 := Int.tdiv_eq_ediv_of_nonneg (by omega)
  rw [e2]
  have e3 : wrap64 ((z * 131 + y * 1117 + k * 29 + d * 53) / 64) = (z * 131 + y * 1117 + k * 29 + d * 53) / 64 := by unfold wrap64; omega
  rw [e3]
  exact xor_nonneg _ _ (by omega) (by omega) (by omega) (by omega)

set_option maxHeartbeats 1000000 in
theorem pick_any (r B : Nat) (n : Int) (x : World) (h : Rd x r B) (hB : B ≤ 100000) (hn : n ≤ 100000) :
    Calls Try.prog 44 #[.pointer (some ⟨r, 0, none⟩), .int .i64 n] x fun e y => ∃ v : Int, e = .returned (.int .i64 v) ∧ 0 ≤ v ∧ (v < n ∨ v = 0) ∧ Drawn r (B + 1) x y := by
  obtain ⟨a, len, cap, p, c0, c1, p0, p1, hl, hf, hr, hrow⟩ := h.it
  have hD := drawn_set h c1
  by_cases h1 : n < 1
  · go_enter Try.func44, Try.ntmps44
    go_wp2
    go_ret
    exact ⟨0, rfl, by omega, .inr rfl, hD⟩
  · by_cases h0 : len = 0
    · subst h0
      clear hrow
      go_enter Try.func44, Try.ntmps44
      go_wp2
      go_ret
      exact ⟨0, rfl, by omega, .inr rfl, hD⟩
    · have hlen : ((len : Int) == 0) = false := by simp [h0]
      rcases hrow with hrow | ⟨b, off, zs, rfl, hb, hz, hcell⟩
      · omega
      have hne : ¬ b = r := by omega
      obtain ⟨k, rfl⟩ := Int.eq_ofNat_of_zero_le p0
      by_cases hk : k < len
      · obtain ⟨z, z0, z1, cz⟩ : ∃ z : Int, 0 ≤ z ∧ z ≤ 255 ∧ x.cell? ⟨b, off + k, none⟩ = some (.int .u8 z) := ⟨zs.getD k 0, (hcell k hk).2.1, (hcell k hk).2.2, (hcell k hk).1⟩
        have hki : (k : Int) < (len : Int) := by omega
        clear hcell hz hlen
        go_enter Try.func44, Try.ntmps44
        go_wp2
        go_ret
        exact ⟨z % n, rfl, Int.emod_nonneg _ (by omega), .inl (Int.emod_lt_of_pos _ (by omega)), hD⟩
      · obtain ⟨z, z0, z1, cz⟩ : ∃ z : Int, 0 ≤ z ∧ z ≤ 255 ∧ x.cell? ⟨b, off + k % len, none⟩ = some (.int .u8 z) := ⟨_, (hcell _ (Nat.mod_lt k (by omega))).2.1, (hcell _ (Nat.mod_lt k (by omega))).2.2, (hcell _ (Nat.mod_lt k (by omega))).1⟩
        obtain ⟨y, y0, y1, cy⟩ : ∃ z : Int, 0 ≤ z ∧ z ≤ 255 ∧ x.cell? ⟨b, off + (k * 7 + 3) % len, none⟩ = some (.int .u8 z) := ⟨_, (hcell _ (Nat.mod_lt (k * 7 + 3) (by omega))).2.1, (hcell _ (Nat.mod_lt (k * 7 + 3) (by omega))).2.2, (hcell _ (Nat.mod_lt (k * 7 + 3) (by omega))).1⟩
        have hki : ¬ (k : Int) < (len : Int) := by omega
        have hlp : (0 : Int) < (len : Int) := by omega
        have t1 : (k : Int).tmod (len : Int) = (k : Int) % (len : Int) := Int.tmod_eq_emod_of_nonneg (by omega)
        have t2 : ((k : Int) * 7 + 3).tmod (len : Int) = ((k : Int) * 7 + 3) % (len : Int) := Int.tmod_eq_emod_of_nonneg (by omega)
        have t3 : (k : Int).tdiv (len : Int) = (k : Int) / (len : Int) := Int.tdiv_eq_ediv_of_nonneg (by omega)
        have q1 : 0 ≤ (k : Int).tmod (len : Int) := by rw [t1]; exact Int.emod_nonneg _ (by omega)
        have q2 : (k : Int).tmod (len : Int) < (len : Int) := by rw [t1]; exact Int.emod_lt_of_pos _ hlp
        have q3 : 0 ≤ ((k : Int) * 7 + 3).tmod (len : Int) := by rw [t2]; exact Int.emod_nonneg _ (by omega)
        have q4 : ((k : Int) * 7 + 3).tmod (len : Int) < (len : Int) := by rw [t2]; exact Int.emod_lt_of_pos _ hlp
        have q5 : 0 ≤ (k : Int).tdiv (len : Int) := by rw [t3]; exact Int.ediv_nonneg (by omega) (by omega)
        have q6 : (k : Int).tdiv (len : Int) ≤ (k : Int) := by rw [t3]; exact Int.ediv_le_self _ (by omega)
        have e1 : ((k : Int).tmod (len : Int)).toNat = k % len := by rw [t1, ← Int.natCast_emod]; rfl
        have e2 : (((k : Int) * 7 + 3).tmod (len : Int)).toNat = (k * 7 + 3) % len := by rw [t2, show (k : Int) * 7 + 3 = ((k * 7 + 3 : Nat) : Int) from by omega, ← Int.natCast_emod]; rfl
        have s1 : IntKind.i64.wrap z = z := IntWalk.i64_in _ (by omega)
        have s2 : IntKind.i64.wrap (z * 131) = z * 131 := IntWalk.i64_in _ (by omega)
        have s3 : IntKind.i64.wrap ((k : Int) * 7) = (k : Int) * 7 := IntWalk.i64_in _ (by omega)
        have s4 : IntKind.i64.wrap ((k : Int) * 7 + 3) = (k : Int) * 7 + 3 := IntWalk.i64_in _ (by omega)
        have s5 : IntKind.i64.wrap y = y := IntWalk.i64_in _ (by omega)
        have s6 : IntKind.i64.wrap (y * 1117) = y * 1117 := IntWalk.i64_in _ (by omega)
        have s7 : IntKind.i64.wrap (z * 131 + y * 1117) = z * 131 + y * 1117 := IntWalk.i64_in _ (by omega)
        have s8 : IntKind.i64.wrap ((k : Int) * 29) = (k : Int) * 29 := IntWalk.i64_in _ (by omega)
        have s9 : IntKind.i64.wrap (z * 131 + y * 1117 + (k : Int) * 29) = z * 131 + y * 1117 + (k : Int) * 29 := IntWalk.i64_in _ (by omega)
        have s10 : IntKind.i64.wrap ((k : Int).tdiv (len : Int)) = (k : Int).tdiv (len : Int) := IntWalk.i64_in _ (by omega)
        have s11 : IntKind.i64.wrap ((k : Int).tdiv (len : Int) * 53) = (k : Int).tdiv (len : Int) * 53 := IntWalk.i64_in _ (by omega)
        have s12 : IntKind.i64.wrap (z * 131 + y * 1117 + (k : Int) * 29 + (k : Int).tdiv (len : Int) * 53) = z * 131 + y * 1117 + (k : Int) * 29 + (k : Int).tdiv (len : Int) * 53 := IntWalk.i64_in _ (by omega)
        rw [← e1] at cz
        rw [← e2] at cy
        clear hcell hz e1 e2 t1 t2 t3
        go_enter Try.func44, Try.ntmps44
        go_wp2
        go_quiet (fail)
        go_wp2
        go_ret
        have hm := mix_nonneg z y (k : Int) ((k : Int) / (len : Int)) z0 z1 y0 y1 (by omega) (by omega) (Int.ediv_nonneg (by omega) (by omega)) (Int.ediv_le_self _ (by omega))
        exact ⟨_, rfl, Int.tmod_nonneg _ hm, .inl (Int.tmod_lt_of_pos _ (by omega)), hD.drewN _⟩
end Go.Proofs.Ytdomalclpjijaaa
