import Derived.Test.YtdomalclpjijaaaB3
import Derived.Test.YtdomalclpjijaaaB18
/-
  The laws' lgState at two states that read as the same one.
-/
namespace Go.Proofs.Ytdomalclpjijaaa
open Go.RowKit
set_option linter.unusedVariables false
set_option linter.unusedSimpArgs false

set_option maxHeartbeats 2000000 in
theorem lgState_same (x : World) (z z' : Bool) (B E C D : Nat) (a : Bool) (v v' : Value) (L : List Sp) (c : Bool) (l u : Int) (h : SpsAt z x B E v L) (h' : SpsAt z' x C D v' L) :
    Calls Try.prog 26 #[.agg #[.bool a, v, .bool c, .int .i64 l, .int .i64 u], .agg #[.bool a, v', .bool c, .int .i64 l, .int .i64 u]] x fun e y => e = .returned (.bool true) ∧ Below x.heap.size x y := by
  obtain ⟨p, cap, rfl⟩ := h.shape
  obtain ⟨p', cap', rfl⟩ := h'.shape
  have hA : Below x.heap.size x ((x.alloc (.cells #[.bool a, .slice p L.length cap, .bool c, .int .i64 l, .int .i64 u] 31)).alloc (.cells #[.bool a, .slice p' L.length cap', .bool c, .int .i64 l, .int .i64 u] 31)) := by go_grown
  have H : Hid (SpsAt z ((x.alloc (.cells #[.bool a, .slice p L.length cap, .bool c, .int .i64 l, .int .i64 u] 31)).alloc (.cells #[.bool a, .slice p' L.length cap', .bool c, .int .i64 l, .int .i64 u] 31)) B E (.slice p L.length cap) L) := h.later hA
  have H' : Hid (SpsAt z' ((x.alloc (.cells #[.bool a, .slice p L.length cap, .bool c, .int .i64 l, .int .i64 u] 31)).alloc (.cells #[.bool a, .slice p' L.length cap', .bool c, .int .i64 l, .int .i64 u] 31)) C D (.slice p' L.length cap') L) := h'.later hA
  have K2 : Hid (Bx5 ((x.alloc (.cells #[.bool a, .slice p L.length cap, .bool c, .int .i64 l, .int .i64 u] 31)).alloc (.cells #[.bool a, .slice p' L.length cap', .bool c, .int .i64 l, .int .i64 u] 31)) x.heap.size (.bool a) (.slice p L.length cap) (.bool c) (.int .i64 l) (.int .i64 u)) := (Bx5.new _ _ _ _ _ _ _).alloc _
  have K3 : Hid (Bx5 ((x.alloc (.cells #[.bool a, .slice p L.length cap, .bool c, .int .i64 l, .int .i64 u] 31)).alloc (.cells #[.bool a, .slice p' L.length cap', .bool c, .int .i64 l, .int .i64 u] 31)) (x.heap.size + 1) (.bool a) (.slice p' L.length cap') (.bool c) (.int .i64 l) (.int .i64 u)) := by
    have := Bx5.new (x.alloc (.cells #[.bool a, .slice p L.length cap, .bool c, .int .i64 l, .int .i64 u] 31)) (.bool a) (.slice p' L.length cap') (.bool c) (.int .i64 l) (.int .i64 u) 31
    simp at this
    exact this
  have HA : Hid (Below x.heap.size x ((x.alloc (.cells #[.bool a, .slice p L.length cap, .bool c, .int .i64 l, .int .i64 u] 31)).alloc (.cells #[.bool a, .slice p' L.length cap', .bool c, .int .i64 l, .int .i64 u] 31))) := hA
  clear h h' hA
  generalize hL : L.length = n at *
  have HL : Hid (L.length = n) := hL
  have hm : (n : Int) ≤ 9223372036854775807 := by obtain ⟨_, _, _, hm, _⟩ := H.out; unfold maxLen at hm; omega
  clear hL
  go_enter Try.func26, Try.ntmps26
  go_wp2_with fail
  generalize (x.alloc (.cells #[.bool a, .slice p n cap, .bool c, .int .i64 l, .int .i64 u] 31)).alloc (.cells #[.bool a, .slice p' n cap', .bool c, .int .i64 l, .int .i64 u] 31) = X at H H' K2 K3 HA ⊢
  go_loopw [5] (fun i y => ∃ k : Nat, k ≤ n ∧ i = .int .i64 k ∧ ∃ q, y = X.drewN q) (fun i _ => n - (intOf i).toNat)
  case atStart => exact ⟨0, by omega, rfl, 0, rfl⟩
  case round =>
    obtain ⟨k, hk, rfl, q, rfl⟩ := hrel
    have k21 := K2.out.c1
    have k31 := K3.out.c1
    by_cases hlt : k < n
    · obtain ⟨p1, cap1, e1, hm1, hc1⟩ := H.out
      obtain ⟨p2, cap2, e2, hm2, hc2⟩ := H'.out
      rw [HL.out] at e1 e2 hc1 hc2
      injection e1 with e11 _ e13
      injection e2 with e21 _ e23
      subst e11 e13 e21 e23
      rcases hc1 with h0 | ⟨g, o, rfl, hBg, hgE, hEx, _, hins⟩
      · omega
      rcases hc2 with h0 | ⟨g', o', rfl, hBg', hgE', hEx', _, hins'⟩
      · omega
      obtain ⟨q0, q1, q2⟩ := hins k hlt
      obtain ⟨r0, r1, r2⟩ := hins' k hlt
      have hi : (k : Int) < (n : Int) := by omega
      clear hins hins' hm1 hm2
      generalize L.getD k noSp = s at q0 q1 q2 r0 r1 r2
      obtain ⟨s0, s1, s2⟩ := s
      simp only at q0 q1 q2 r0 r1 r2
      go_wp2_with fail
      go_quiet (fail)
      go_wp2_with fail
      go_roundw
      case rel => exact ⟨k + 1, by omega, by go_num, _, rfl⟩
      case measure => simp [intOf]; omega
    · have hi : ¬ (k : Int) < (n : Int) := by omega
      go_wp2_with fail
      go_ret
      exact ⟨rfl, HA.out.trans ((belowN X q).mono HA.out.size)⟩

end Go.Proofs.Ytdomalclpjijaaa

/-
  The laws' lgState at any two states: whether they read as the same one.
-/
namespace Go.Proofs.Ytdomalclpjijaaa
open Go.RowKit
set_option linter.unusedVariables false
set_option linter.unusedSimpArgs false

/-- whether two states are the same -/
def stEq (a : Bool) (L : List Sp) (c : Sp) (b : Bool) (M : List Sp) (d : Sp) : Bool := decide (a = b ∧ c = d ∧ L = M)
theorem stEq_no {a : Bool} {L : List Sp} {c : Sp} {b : Bool} {M : List Sp} {d : Sp} (h : ¬ (a = b ∧ c = d ∧ L = M)) : stEq a L c b M d = false := by simp [stEq, h]
theorem stEq_yes (a : Bool) (L : List Sp) (c : Sp) : stEq a L c a L c = true := by simp [stEq]
theorem list_getD {L M : List Sp} (h : L.length = M.length) (hj : ∀ j, j < L.length → L.getD j noSp = M.getD j noSp) : L = M := by
  apply List.ext_getElem h
  intro j h1 h2
  have := hj j h1
  rw [List.getD_eq_getElem?_getD, List.getD_eq_getElem?_getD, List.getElem?_eq_getElem h1, List.getElem?_eq_getElem h2] at this
  exact this

theorem belowNN (X : World) (q n : Nat) : Below X.heap.size X ((X.drewN q).drewN n) := (belowN X q).trans ((belowN (X.drewN q) n).mono (belowN X q).size)
set_option maxHeartbeats 4000000 in
theorem lgState_early (x : World) (p p' : Option Addr) (n m cap cap' : Nat) (a c : Bool) (l u : Int) (b d : Bool) (l' u' : Int) (hn : n ≤ 1000) (hm : m ≤ 1000) (hne : ¬ (a = b ∧ c = d ∧ l = l' ∧ u = u' ∧ n = m)) :
    Calls Try.prog 26 #[.agg #[.bool a, .slice p n cap, .bool c, .int .i64 l, .int .i64 u], .agg #[.bool b, .slice p' m cap', .bool d, .int .i64 l', .int .i64 u']] x fun e y => e = .returned (.bool false) ∧ Below x.heap.size x y := by
  by_cases ha : a = b
  · subst ha
    by_cases hc : c = d
    · subst hc
      by_cases hl : l = l'
      · subst hl
        by_cases hu : u = u'
        · subst hu
          have hx0 : ¬ n = m := fun e => hne ⟨rfl, rfl, rfl, rfl, e⟩
          have hx : ¬ (n : Int) = (m : Int) := by omega
          clear hne hn hm
          go_enter Try.func26, Try.ntmps26
          go_wp2_with fail
          all_goals
            go_ret
            exact ⟨rfl, by go_grown⟩
        · clear hne hn hm
          go_enter Try.func26, Try.ntmps26
          go_wp2_with fail
          all_goals
            go_ret
            exact ⟨rfl, by go_grown⟩
      · clear hne hn hm
        go_enter Try.func26, Try.ntmps26
        go_wp2_with fail
        all_goals
          go_ret
          exact ⟨rfl, by go_grown⟩
    · clear hne hn hm
      cases c <;> cases d <;> first
        | exact absurd rfl hc
        | (clear hc
           go_enter Try.func26, Try.ntmps26
           go_wp2_with fail
           all_goals
             go_ret
             exact ⟨rfl, by go_grown⟩)
  · clear hne hn hm
    cases a <;> cases b <;> first
      | exact absurd rfl ha
      | (clear ha
         go_enter Try.func26, Try.ntmps26
         go_wp2_with fail
         all_goals
           go_ret
           exact ⟨rfl, by go_grown⟩)

set_option maxHeartbeats 4000000 in
theorem lgState_any (x : World) (z z' : Bool) (B E C D : Nat) (a : Bool) (v : Value) (L : List Sp) (c : Bool) (l u : Int) (b : Bool) (v' : Value) (M : List Sp) (d : Bool) (l' u' : Int) (h : SpsAt z x B E v L) (h' : SpsAt z' x C D v' M) (hn : L.length ≤ 1000) (hm : M.length ≤ 1000) :
    Calls Try.prog 26 #[.agg #[.bool a, v, .bool c, .int .i64 l, .int .i64 u], .agg #[.bool b, v', .bool d, .int .i64 l', .int .i64 u']] x fun e y => e = .returned (.bool (stEq a L (c, l, u) b M (d, l', u'))) ∧ Below x.heap.size x y := by
  obtain ⟨p, cap, rfl⟩ := h.shape
  obtain ⟨p', cap', rfl⟩ := h'.shape
  by_cases hne : a = b ∧ c = d ∧ l = l' ∧ u = u' ∧ L.length = M.length
  · obtain ⟨rfl, rfl, rfl, rfl, hlen⟩ := hne
    have hA : Below x.heap.size x ((x.alloc (.cells #[.bool a, .slice p L.length cap, .bool c, .int .i64 l, .int .i64 u] 31)).alloc (.cells #[.bool a, .slice p' L.length cap', .bool c, .int .i64 l, .int .i64 u] 31)) := by go_grown
    rw [← hlen] at h' ⊢
    have H : Hid (SpsAt z ((x.alloc (.cells #[.bool a, .slice p L.length cap, .bool c, .int .i64 l, .int .i64 u] 31)).alloc (.cells #[.bool a, .slice p' L.length cap', .bool c, .int .i64 l, .int .i64 u] 31)) B E (.slice p L.length cap) L) := h.later hA
    have H' : Hid (SpsAt z' ((x.alloc (.cells #[.bool a, .slice p L.length cap, .bool c, .int .i64 l, .int .i64 u] 31)).alloc (.cells #[.bool a, .slice p' L.length cap', .bool c, .int .i64 l, .int .i64 u] 31)) C D (.slice p' L.length cap') M) := h'.later hA
    have K2 : Hid (Bx5 ((x.alloc (.cells #[.bool a, .slice p L.length cap, .bool c, .int .i64 l, .int .i64 u] 31)).alloc (.cells #[.bool a, .slice p' L.length cap', .bool c, .int .i64 l, .int .i64 u] 31)) x.heap.size (.bool a) (.slice p L.length cap) (.bool c) (.int .i64 l) (.int .i64 u)) := (Bx5.new _ _ _ _ _ _ _).alloc _
    have K3 : Hid (Bx5 ((x.alloc (.cells #[.bool a, .slice p L.length cap, .bool c, .int .i64 l, .int .i64 u] 31)).alloc (.cells #[.bool a, .slice p' L.length cap', .bool c, .int .i64 l, .int .i64 u] 31)) (x.heap.size + 1) (.bool a) (.slice p' L.length cap') (.bool c) (.int .i64 l) (.int .i64 u)) := by
      have := Bx5.new (x.alloc (.cells #[.bool a, .slice p L.length cap, .bool c, .int .i64 l, .int .i64 u] 31)) (.bool a) (.slice p' L.length cap') (.bool c) (.int .i64 l) (.int .i64 u) 31
      simp at this
      exact this
    have HA : Hid (Below x.heap.size x ((x.alloc (.cells #[.bool a, .slice p L.length cap, .bool c, .int .i64 l, .int .i64 u] 31)).alloc (.cells #[.bool a, .slice p' L.length cap', .bool c, .int .i64 l, .int .i64 u] 31))) := hA
    clear h h' hA
    generalize hL : L.length = n at *
    have HL : Hid (L.length = n ∧ M.length = n) := ⟨hL, hlen.symm⟩
    have hm : (n : Int) ≤ 9223372036854775807 := by omega
    clear hL hlen hn
    go_enter Try.func26, Try.ntmps26
    go_wp2_with fail
    generalize (x.alloc (.cells #[.bool a, .slice p n cap, .bool c, .int .i64 l, .int .i64 u] 31)).alloc (.cells #[.bool a, .slice p' n cap', .bool c, .int .i64 l, .int .i64 u] 31) = X at H H' K2 K3 HA ⊢
    go_loopw [5] (fun i y => ∃ k : Nat, k ≤ n ∧ i = .int .i64 k ∧ (∀ j, j < k → L.getD j noSp = M.getD j noSp) ∧ ∃ q, y = X.drewN q) (fun i _ => n - (intOf i).toNat)
    case atStart => exact ⟨0, by omega, rfl, fun j hj => by omega, 0, rfl⟩
    case round =>
      obtain ⟨k, hk, rfl, hd, q, rfl⟩ := hrel
      have HD : Hid (∀ j, j < k → L.getD j noSp = M.getD j noSp) := hd
      clear hd
      have k21 := K2.out.c1
      have k31 := K3.out.c1
      by_cases hlt : k < n
      · obtain ⟨p1, cap1, e1, hm1, hc1⟩ := H.out
        obtain ⟨p2, cap2, e2, hm2, hc2⟩ := H'.out
        rw [HL.out.1] at e1 hc1
        rw [HL.out.2] at e2 hc2
        injection e1 with e11 _ e13
        injection e2 with e21 _ e23
        subst e11 e13 e21 e23
        rcases hc1 with h0 | ⟨g, o, rfl, hBg, hgE, hEx, _, hins⟩
        · omega
        rcases hc2 with h0 | ⟨g', o', rfl, hBg', hgE', hEx', _, hins'⟩
        · omega
        obtain ⟨q0, q1, q2⟩ := hins k hlt
        obtain ⟨r0, r1, r2⟩ := hins' k hlt
        have hi : (k : Int) < (n : Int) := by omega
        clear hins hins' hm1 hm2
        generalize hI : L.getD k noSp = s at q0 q1 q2
        have HI : Hid (L.getD k noSp = s) := hI
        clear hI
        generalize hJ : M.getD k noSp = t at r0 r1 r2
        have HJ : Hid (M.getD k noSp = t) := hJ
        clear hJ
        obtain ⟨s0, s1, s2⟩ := s
        obtain ⟨t0, t1, t2⟩ := t
        simp only at q0 q1 q2 r0 r1 r2
        have hno : ¬ ((s0, s1, s2) : Sp) = (t0, t1, t2) → stEq a L (c, l, u) a M (c, l, u) = false := fun hst => stEq_no fun h => hst (by rw [← HI.out, ← HJ.out, h.2.2])
        have HNo : Hid (¬ ((s0, s1, s2) : Sp) = (t0, t1, t2) → stEq a L (c, l, u) a M (c, l, u) = false) := hno
        clear hno
        by_cases h0 : s0 = t0
        · subst h0
          by_cases h1 : s1 = t1
          · subst h1
            by_cases h2 : s2 = t2
            · subst h2
              go_wp2_with fail
              go_quiet (fail)
              go_wp2_with fail
              go_roundw
              case rel =>
                refine ⟨k + 1, by omega, by go_num, fun j hj => ?_, _, rfl⟩
                by_cases hjk : j = k
                · subst hjk; rw [HI.out, HJ.out]
                · exact HD.out j (by omega)
              case measure => simp [intOf]; omega
            · go_wp2_with fail
              go_quiet (fail)
              go_wp2_with fail
              all_goals
                go_ret
                exact ⟨by rw [HNo.out (by simp [h2])]; rfl, HA.out.trans ((belowNN X _ _).mono HA.out.size)⟩
          · go_wp2_with fail
            go_quiet (fail)
            go_wp2_with fail
            all_goals
              go_ret
              exact ⟨by rw [HNo.out (by simp [h1])]; rfl, HA.out.trans ((belowNN X _ _).mono HA.out.size)⟩
        · have hn2 := HNo.out (by simp [h0])
          have HN2 : Hid (stEq a L (c, l, u) a M (c, l, u) = false) := hn2
          clear hn2 HNo
          cases s0 <;> cases t0 <;> first
            | exact absurd rfl h0
            | (clear h0
               go_wp2_with fail
               go_quiet (fail)
               go_wp2_with fail
               all_goals
                 go_ret
                 exact ⟨by rw [HN2.out]; rfl, HA.out.trans ((belowNN X _ _).mono HA.out.size)⟩)
      · have hi : ¬ (k : Int) < (n : Int) := by omega
        have hLM : L = M := list_getD (by rw [HL.out.1, HL.out.2]) fun j hj => HD.out j (by rw [HL.out.1] at hj; omega)
        have HLM : Hid (L = M) := hLM
        clear hLM
        go_wp2_with fail
        go_ret
        exact ⟨by rw [HLM.out, stEq_yes]; rfl, HA.out.trans ((belowN X q).mono HA.out.size)⟩
  · rw [stEq_no (fun hh => hne ⟨hh.1, by have := hh.2.1; simp at this; exact this.1, by have := hh.2.1; simp at this; exact this.2.1, by have := hh.2.1; simp at this; exact this.2.2, by rw [hh.2.2]⟩)]
    exact lgState_early x p p' _ _ cap cap' a c l u b d l' u' hn hm hne
end Go.Proofs.Ytdomalclpjijaaa

/-
  The order of states and their joins: plain facts.
-/
namespace Go.Proofs.Ytdomalclpjijaaa
open Go.RowKit
set_option linter.unusedVariables false
set_option linter.unusedSimpArgs false

theorem some_form {s : Sp} (h : someF s = true) : ∃ l u, s = (true, l, u) ∧ -16 ≤ l ∧ l ≤ u ∧ u ≤ 15 := by
  obtain ⟨a, l, u⟩ := s
  unfold someF at h
  simp only [Bool.and_eq_true] at h
  obtain ⟨h1, h2⟩ := h
  subst h1
  have := okF_bd h2
  exact ⟨l, u, rfl, this.1, this.2.2.2.2, this.2.2.2.1⟩
theorem some_mk {l u : Int} (h1 : -16 ≤ l) (h2 : l ≤ u) (h3 : u ≤ 15) : someF (true, l, u) = true := by
  unfold someF; simp [okw h1 h2 h3]
/-- a state that is ok: none, or three registers and cells that are some -/
theorem ok_form {a : Bool} {L : List Sp} {c : Sp} (h : stOk a L c = true) : (a = false ∧ L = [] ∧ c = noSp) ∨ (a = true ∧ ∃ s0 s1 s2, L = [s0, s1, s2] ∧ someF s0 = true ∧ someF s1 = true ∧ someF s2 = true ∧ someF c = true) := by
  cases a
  · unfold stOk at h
    simp at h
    exact .inl ⟨rfl, h.1, h.2⟩
  · have hl := stOk_len' h
    obtain ⟨s0, s1, s2, rfl⟩ := three_of hl
    unfold stOk at h
    simp at h
    exact .inr ⟨rfl, s0, s1, s2, rfl, h.1.1, h.1.2.1, h.1.2.2, h.2⟩
theorem ok_some {s0 s1 s2 c : Sp} (h0 : someF s0 = true) (h1 : someF s1 = true) (h2 : someF s2 = true) (h3 : someF c = true) : stOk true [s0, s1, s2] c = true := by
  simp [stOk, h0, h1, h2, h3]
theorem ok_none : stOk false [] noSp = true := by simp [stOk]
theorem inS_of {l u m v : Int} (h : -16 ≤ l ∧ l ≤ u ∧ u ≤ 15) (k : -16 ≤ m ∧ m ≤ v ∧ v ≤ 15) : inS (true, l, u) (true, m, v) = decide (m ≤ l ∧ u ≤ v) := by
  unfold inS inF
  simp [okw h.1 h.2.1 h.2.2, okw k.1 k.2.1 k.2.2]
theorem inst_none {a : Bool} {L : List Sp} {c : Sp} (h : stOk a L c = true) : stIn false [] noSp a L c = true := by simp [stIn, ok_none, h]
theorem inst_to_none {a : Bool} {L : List Sp} {c : Sp} (h : stOk a L c = true) : stIn a L c false [] noSp = !a := by simp [stIn, ok_none, h]
theorem inst_some {s0 s1 s2 c t0 t1 t2 d : Sp} (h : stOk true [s0, s1, s2] c = true) (k : stOk true [t0, t1, t2] d = true) : stIn true [s0, s1, s2] c true [t0, t1, t2] d = (inS s0 t0 && inS s1 t1 && inS s2 t2 && inS c d) := by
  unfold stIn
  rw [h, k]
  simp [upto, pairF, List.range_succ, Bool.and_assoc]
theorem inS_refl {s : Sp} (h : someF s = true) : inS s s = true := by
  obtain ⟨l, u, rfl, bs⟩ := some_form h
  rw [inS_of bs bs]; simp
theorem inS_trans {s t r : Sp} (hs : someF s = true) (ht : someF t = true) (hr : someF r = true) (h : inS s t = true) (k : inS t r = true) : inS s r = true := by
  obtain ⟨l, u, rfl, bs⟩ := some_form hs
  obtain ⟨m, v, rfl, bt⟩ := some_form ht
  obtain ⟨n, x, rfl, br⟩ := some_form hr
  rw [inS_of bs bt] at h
  rw [inS_of bt br] at k
  rw [inS_of bs br]
  simp at h k ⊢
  omega
theorem inS_anti {s t : Sp} (hs : someF s = true) (ht : someF t = true) (h : inS s t = true) (k : inS t s = true) : s = t := by
  obtain ⟨l, u, rfl, bs⟩ := some_form hs
  obtain ⟨m, v, rfl, bt⟩ := some_form ht
  rw [inS_of bs bt] at h
  rw [inS_of bt bs] at k
  simp at h k ⊢
  omega

theorem stIn_refl {a : Bool} {L : List Sp} {c : Sp} (h : stOk a L c = true) : stIn a L c a L c = true := by
  rcases ok_form h with ⟨rfl, rfl, rfl⟩ | ⟨rfl, s0, s1, s2, rfl, h0, h1, h2, h3⟩
  · exact inst_none h
  · rw [inst_some h h, inS_refl h0, inS_refl h1, inS_refl h2, inS_refl h3]; rfl
theorem stIn_trans {a b e : Bool} {L M N : List Sp} {c d f : Sp} (h1 : stOk a L c = true) (h2 : stOk b M d = true) (h3 : stOk e N f = true) (h : stIn a L c b M d = true) (k : stIn b M d e N f = true) : stIn a L c e N f = true := by
  rcases ok_form h1 with ⟨rfl, rfl, rfl⟩ | ⟨rfl, s0, s1, s2, rfl, p0, p1, p2, p3⟩
  · exact inst_none h3
  rcases ok_form h2 with ⟨rfl, rfl, rfl⟩ | ⟨rfl, t0, t1, t2, rfl, q0, q1, q2, q3⟩
  · rw [inst_to_none h1] at h; cases h
  rcases ok_form h3 with ⟨rfl, rfl, rfl⟩ | ⟨rfl, r0, r1, r2, rfl, w0, w1, w2, w3⟩
  · rw [inst_to_none h2] at k; cases k
  rw [inst_some h1 h2] at h
  rw [inst_some h2 h3] at k
  rw [inst_some h1 h3]
  simp only [Bool.and_eq_true] at h k ⊢
  exact ⟨⟨⟨inS_trans p0 q0 w0 h.1.1.1 k.1.1.1, inS_trans p1 q1 w1 h.1.1.2 k.1.1.2⟩, inS_trans p2 q2 w2 h.1.2 k.1.2⟩, inS_trans p3 q3 w3 h.2 k.2⟩
theorem stIn_anti {a b : Bool} {L M : List Sp} {c d : Sp} (h1 : stOk a L c = true) (h2 : stOk b M d = true) (h : stIn a L c b M d = true) (k : stIn b M d a L c = true) : stEq a L c b M d = true := by
  rcases ok_form h1 with ⟨rfl, rfl, rfl⟩ | ⟨rfl, s0, s1, s2, rfl, p0, p1, p2, p3⟩
  · rcases ok_form h2 with ⟨rfl, rfl, rfl⟩ | ⟨rfl, t0, t1, t2, rfl, q0, q1, q2, q3⟩
    · exact stEq_yes _ _ _
    · rw [inst_to_none h2] at k; cases k
  rcases ok_form h2 with ⟨rfl, rfl, rfl⟩ | ⟨rfl, t0, t1, t2, rfl, q0, q1, q2, q3⟩
  · rw [inst_to_none h1] at h; cases h
  rw [inst_some h1 h2] at h
  rw [inst_some h2 h1] at k
  simp only [Bool.and_eq_true] at h k
  rw [inS_anti p0 q0 h.1.1.1 k.1.1.1, inS_anti p1 q1 h.1.1.2 k.1.1.2, inS_anti p2 q2 h.1.2 k.1.2, inS_anti p3 q3 h.2 k.2]
  exact stEq_yes _ _ _

/-! ### the join -/
theorem joinS_of {l u m v : Int} (h : -16 ≤ l ∧ l ≤ u ∧ u ≤ 15) (k : -16 ≤ m ∧ m ≤ v ∧ v ≤ 15) : joinS (true, l, u) (true, m, v) = (true, min l m, max u v) := joinS_t h k
theorem joinS_ok {s t : Sp} (hs : someF s = true) (ht : someF t = true) : someF (joinS s t) = true := by
  obtain ⟨l, u, rfl, bs⟩ := some_form hs
  obtain ⟨m, v, rfl, bt⟩ := some_form ht
  rw [joinS_of bs bt]
  exact some_mk (by omega) (by omega) (by omega)
theorem join_upper {s t : Sp} (hs : someF s = true) (ht : someF t = true) : inS s (joinS s t) = true ∧ inS t (joinS s t) = true ∧ joinS t s = joinS s t := by
  obtain ⟨l, u, rfl, bs⟩ := some_form hs
  obtain ⟨m, v, rfl, bt⟩ := some_form ht
  rw [joinS_of bs bt, joinS_of bt bs, inS_of bs ⟨by omega, by omega, by omega⟩, inS_of bt ⟨by omega, by omega, by omega⟩]
  refine ⟨by simp; omega, by simp; omega, ?_⟩
  rw [Int.min_comm, Int.max_comm]
theorem join_lub {s t r : Sp} (hs : someF s = true) (ht : someF t = true) (hr : someF r = true) (h : inS s r = true) (k : inS t r = true) : inS (joinS s t) r = true := by
  obtain ⟨l, u, rfl, bs⟩ := some_form hs
  obtain ⟨m, v, rfl, bt⟩ := some_form ht
  obtain ⟨n, x, rfl, br⟩ := some_form hr
  rw [inS_of bs br] at h
  rw [inS_of bt br] at k
  rw [joinS_of bs bt, inS_of ⟨by omega, by omega, by omega⟩ br]
  simp at h k ⊢
  omega
theorem join_assoc {s t r : Sp} (hs : someF s = true) (ht : someF t = true) (hr : someF r = true) : joinS (joinS s t) r = joinS s (joinS t r) := by
  obtain ⟨l, u, rfl, bs⟩ := some_form hs
  obtain ⟨m, v, rfl, bt⟩ := some_form ht
  obtain ⟨n, x, rfl, br⟩ := some_form hr
  rw [joinS_of bs bt, joinS_of bt br, joinS_of ⟨by omega, by omega, by omega⟩ br, joinS_of bs ⟨by omega, by omega, by omega⟩, Int.min_assoc, Int.max_assoc]

def stJ (a : Bool) (L : List Sp) (c : Sp) (b : Bool) (M : List Sp) (d : Sp) : St := stBoth false a L c b M d
theorem stJ_none {b : Bool} {M : List Sp} {d : Sp} (h : stOk b M d = true) : stJ false [] noSp b M d = (b, M, d) := stB_snd ok_none h
theorem stJ_none_r {a : Bool} {L : List Sp} {c : Sp} (h : stOk a L c = true) : stJ a L c false [] noSp = (a, L, c) := by
  cases a
  · rcases ok_form h with ⟨_, rfl, rfl⟩ | ⟨h0, _⟩
    · exact stJ_none ok_none
    · cases h0
  · exact stB_fst h ok_none rfl
theorem stJ_some {s0 s1 s2 c t0 t1 t2 d : Sp} (h : stOk true [s0, s1, s2] c = true) (k : stOk true [t0, t1, t2] d = true) : stJ true [s0, s1, s2] c true [t0, t1, t2] d = (true, [joinS s0 t0, joinS s1 t1, joinS s2 t2], joinS c d) := stB_all h k
/-- what is known of the join of two states that are ok -/
theorem stJ_facts {a b : Bool} {L M : List Sp} {c d : Sp} (h1 : stOk a L c = true) (h2 : stOk b M d = true) {e : Bool} {N : List Sp} {f : Sp} (hj : stJ a L c b M d = (e, N, f)) :
    stOk e N f = true ∧ stIn a L c e N f = true ∧ stIn b M d e N f = true ∧ stJ b M d a L c = (e, N, f) := by
  rcases ok_form h1 with ⟨rfl, rfl, rfl⟩ | ⟨rfl, s0, s1, s2, rfl, p0, p1, p2, p3⟩
  · rw [stJ_none h2] at hj
    cases hj
    exact ⟨h2, inst_none h2, stIn_refl h2, stJ_none_r h2⟩
  rcases ok_form h2 with ⟨rfl, rfl, rfl⟩ | ⟨rfl, t0, t1, t2, rfl, q0, q1, q2, q3⟩
  · rw [stJ_none_r h1] at hj
    cases hj
    exact ⟨h1, stIn_refl h1, inst_none h1, stJ_none h1⟩
  rw [stJ_some h1 h2] at hj
  cases hj
  have hk := ok_some (joinS_ok p0 q0) (joinS_ok p1 q1) (joinS_ok p2 q2) (joinS_ok p3 q3)
  obtain ⟨x0, y0, z0⟩ := join_upper p0 q0
  obtain ⟨x1, y1, z1⟩ := join_upper p1 q1
  obtain ⟨x2, y2, z2⟩ := join_upper p2 q2
  obtain ⟨x3, y3, z3⟩ := join_upper p3 q3
  refine ⟨hk, ?_, ?_, ?_⟩
  · rw [inst_some h1 hk, x0, x1, x2, x3]; rfl
  · rw [inst_some h2 hk, y0, y1, y2, y3]; rfl
  · rw [stJ_some h2 h1, z0, z1, z2, z3]
theorem stJ_lub {a b g : Bool} {L M N : List Sp} {c d f : Sp} (h1 : stOk a L c = true) (h2 : stOk b M d = true) (h3 : stOk g N f = true) {e : Bool} {K : List Sp} {k : Sp} (hj : stJ a L c b M d = (e, K, k)) (i1 : stIn a L c g N f = true) (i2 : stIn b M d g N f = true) : stIn e K k g N f = true := by
  rcases ok_form h1 with ⟨rfl, rfl, rfl⟩ | ⟨rfl, s0, s1, s2, rfl, p0, p1, p2, p3⟩
  · rw [stJ_none h2] at hj; cases hj; exact i2
  rcases ok_form h2 with ⟨rfl, rfl, rfl⟩ | ⟨rfl, t0, t1, t2, rfl, q0, q1, q2, q3⟩
  · rw [stJ_none_r h1] at hj; cases hj; exact i1
  rcases ok_form h3 with ⟨rfl, rfl, rfl⟩ | ⟨rfl, r0, r1, r2, rfl, w0, w1, w2, w3⟩
  · rw [inst_to_none h1] at i1; cases i1
  rw [stJ_some h1 h2] at hj
  cases hj
  have hk := ok_some (joinS_ok p0 q0) (joinS_ok p1 q1) (joinS_ok p2 q2) (joinS_ok p3 q3)
  rw [inst_some h1 h3] at i1
  rw [inst_some h2 h3] at i2
  rw [inst_some hk h3]
  simp only [Bool.and_eq_true] at i1 i2 ⊢
  exact ⟨⟨⟨join_lub p0 q0 w0 i1.1.1.1 i2.1.1.1, join_lub p1 q1 w1 i1.1.1.2 i2.1.1.2⟩, join_lub p2 q2 w2 i1.1.2 i2.1.2⟩, join_lub p3 q3 w3 i1.2 i2.2⟩
theorem stJ_assoc {a b g : Bool} {L M N : List Sp} {c d f : Sp} (h1 : stOk a L c = true) (h2 : stOk b M d = true) (h3 : stOk g N f = true) {e x : Bool} {K X : List Sp} {k y : Sp} (hj : stJ a L c b M d = (e, K, k)) (hx : stJ b M d g N f = (x, X, y)) : stJ e K k g N f = stJ a L c x X y := by
  rcases ok_form h1 with ⟨rfl, rfl, rfl⟩ | ⟨rfl, s0, s1, s2, rfl, p0, p1, p2, p3⟩
  · rw [stJ_none h2] at hj; cases hj
    rw [hx, stJ_none (stJ_facts h2 h3 hx).1]
  rcases ok_form h2 with ⟨rfl, rfl, rfl⟩ | ⟨rfl, t0, t1, t2, rfl, q0, q1, q2, q3⟩
  · rw [stJ_none_r h1] at hj; cases hj
    rw [stJ_none h3] at hx; cases hx; rfl
  rcases ok_form h3 with ⟨rfl, rfl, rfl⟩ | ⟨rfl, r0, r1, r2, rfl, w0, w1, w2, w3⟩
  · rw [stJ_none_r h2] at hx; cases hx
    rw [hj, stJ_none_r (stJ_facts h1 h2 hj).1]
  rw [stJ_some h1 h2] at hj
  rw [stJ_some h2 h3] at hx
  cases hj; cases hx
  rw [stJ_some (ok_some (joinS_ok p0 q0) (joinS_ok p1 q1) (joinS_ok p2 q2) (joinS_ok p3 q3)) h3, stJ_some h1 (ok_some (joinS_ok q0 w0) (joinS_ok q1 w1) (joinS_ok q2 w2) (joinS_ok q3 w3)), join_assoc p0 q0 w0, join_assoc p1 q1 w1, join_assoc p2 q2 w2, join_assoc p3 q3 w3]

/-! ### in a hurry -/
theorem down_bd (n : Int) (h : -16 ≤ n) : -16 ≤ downF n ∧ downF n ≤ n := by unfold downF; split <;> (try split) <;> omega
theorem up_bd (n : Int) (h : n ≤ 15) : n ≤ upF n ∧ upF n ≤ 15 := by unfold upF; split <;> (try split) <;> omega
theorem wideS_of {l u m v : Int} (h : -16 ≤ l ∧ l ≤ u ∧ u ≤ 15) (k : -16 ≤ m ∧ m ≤ v ∧ v ≤ 15) : wideS (true, l, u) (true, m, v) = (true, (if min l m < l then downF (min l m) else min l m), (if u < max u v then upF (max u v) else max u v)) := by
  unfold wideS wideF bothF
  simp [okw h.1 h.2.1 h.2.2, okw k.1 k.2.1 k.2.2]
theorem wide_facts {s t : Sp} (hs : someF s = true) (ht : someF t = true) : someF (wideS s t) = true ∧ inS (joinS s t) (wideS s t) = true ∧ (wideS s t = s ↔ inS t s = true) := by
  obtain ⟨l, u, rfl, bs⟩ := some_form hs
  obtain ⟨m, v, rfl, bt⟩ := some_form ht
  rw [wideS_of bs bt, joinS_of bs bt, inS_of bt bs]
  have d1 := down_bd (min l m) (by omega)
  have d2 := up_bd (max u v) (by omega)
  have hb : -16 ≤ (if min l m < l then downF (min l m) else min l m) ∧ (if min l m < l then downF (min l m) else min l m) ≤ (if u < max u v then upF (max u v) else max u v) ∧ (if u < max u v then upF (max u v) else max u v) ≤ 15 := by split <;> split <;> omega
  refine ⟨some_mk hb.1 hb.2.1 hb.2.2, ?_, ?_⟩
  · rw [inS_of ⟨by omega, by omega, by omega⟩ hb]
    simp only [decide_eq_true_eq]
    split <;> split <;> omega
  · simp only [decide_eq_true_eq, Prod.mk.injEq, true_and]
    split <;> split <;> omega
def stW (a : Bool) (L : List Sp) (c : Sp) (b : Bool) (M : List Sp) (d : Sp) : St := stBoth true a L c b M d
theorem stW_none {b : Bool} {M : List Sp} {d : Sp} (h : stOk b M d = true) : stW false [] noSp b M d = (b, M, d) := stB_snd ok_none h
theorem stW_none_r {a : Bool} {L : List Sp} {c : Sp} (h : stOk a L c = true) : stW a L c false [] noSp = (a, L, c) := by
  cases a
  · rcases ok_form h with ⟨_, rfl, rfl⟩ | ⟨h0, _⟩
    · exact stW_none ok_none
    · cases h0
  · exact stB_fst h ok_none rfl
theorem stW_some {s0 s1 s2 c t0 t1 t2 d : Sp} (h : stOk true [s0, s1, s2] c = true) (k : stOk true [t0, t1, t2] d = true) : stW true [s0, s1, s2] c true [t0, t1, t2] d = (true, [wideS s0 t0, wideS s1 t1, wideS s2 t2], wideS c d) := stB_all h k
theorem bool_same {x y : Bool} (h : x = true ↔ y = true) : x = y := by cases x <;> cases y <;> simp_all
theorem stW_facts {a b : Bool} {L M : List Sp} {c d : Sp} (h1 : stOk a L c = true) (h2 : stOk b M d = true) {e g : Bool} {N K : List Sp} {f k : Sp} (hw : stW a L c b M d = (e, N, f)) (hj : stJ a L c b M d = (g, K, k)) :
    stOk e N f = true ∧ stIn g K k e N f = true ∧ stEq e N f a L c = stIn b M d a L c := by
  rcases ok_form h1 with ⟨rfl, rfl, rfl⟩ | ⟨rfl, s0, s1, s2, rfl, p0, p1, p2, p3⟩
  · rw [stW_none h2] at hw; cases hw
    rw [stJ_none h2] at hj; cases hj
    refine ⟨h2, stIn_refl h2, ?_⟩
    rw [inst_to_none h2]
    rcases ok_form h2 with ⟨rfl, rfl, rfl⟩ | ⟨rfl, t0, t1, t2, rfl, _⟩
    · exact stEq_yes _ _ _
    · exact stEq_no (by simp)
  rcases ok_form h2 with ⟨rfl, rfl, rfl⟩ | ⟨rfl, t0, t1, t2, rfl, q0, q1, q2, q3⟩
  · rw [stW_none_r h1] at hw; cases hw
    rw [stJ_none_r h1] at hj; cases hj
    exact ⟨h1, stIn_refl h1, by rw [inst_none h1, stEq_yes]⟩
  rw [stW_some h1 h2] at hw
  rw [stJ_some h1 h2] at hj
  cases hw; cases hj
  obtain ⟨x0, y0, z0⟩ := wide_facts p0 q0
  obtain ⟨x1, y1, z1⟩ := wide_facts p1 q1
  obtain ⟨x2, y2, z2⟩ := wide_facts p2 q2
  obtain ⟨x3, y3, z3⟩ := wide_facts p3 q3
  have hk := ok_some x0 x1 x2 x3
  refine ⟨hk, ?_, ?_⟩
  · rw [inst_some (ok_some (joinS_ok p0 q0) (joinS_ok p1 q1) (joinS_ok p2 q2) (joinS_ok p3 q3)) hk, y0, y1, y2, y3]; rfl
  · rw [inst_some h2 h1]
    refine bool_same ?_
    simp only [stEq, decide_eq_true_eq, true_and, List.cons.injEq, and_true, Bool.and_eq_true]
    rw [z0, z1, z2, z3]
    constructor
    · rintro ⟨h3, h0, h1, h2⟩; exact ⟨⟨⟨h0, h1⟩, h2⟩, h3⟩
    · rintro ⟨⟨⟨h0, h1⟩, h2⟩, h3⟩; exact ⟨h3, h0, h1, h2⟩
end Go.Proofs.Ytdomalclpjijaaa
