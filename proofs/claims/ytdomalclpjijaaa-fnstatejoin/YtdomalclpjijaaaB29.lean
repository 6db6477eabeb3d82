import Derived.Test.YtdomalclpjijaaaB8
import Derived.Test.YtdomalclpjijaaaB28
/-
  The laws' lgState at two states that read as the same one.
-/
namespace Go.Proofs.Ytdomalclpjijaaa
open Go.RowKit
set_option linter.unusedVariables false
set_option linter.unusedSimpArgs false

set_option maxHeartbeats 2000000 in
theorem lgState_same (x : World) (z z' : Bool) (B E C D : Nat) (a : Bool) (v v' : Value) (L : List Sp) (c : Bool) (l u : Int) (h : SpsAt z x B E v L) (h' : SpsAt z' x C D v' L) :
    Calls Try.prog 26 #[.agg #[.bool a, v, .bool c, .int .i64 l, .int .i64 u], .agg #[.bool a, v', .bool c, .int .i64 l, .int .i64 u]] x fun e y => e = .returned (.bool true) ∧ Below x.heap.size x y := by
  obtain ⟨p, cap, rfl⟩ := h.shape
  obtain ⟨p', cap', rfl⟩ := h'.shape
  have hA : Below x.heap.size x ((x.alloc (.cells #[.bool a, .slice p L.length cap, .bool c, .int .i64 l, .int .i64 u] 31)).alloc (.cells #[.bool a, .slice p' L.length cap', .bool c, .int .i64 l, .int .i64 u] 31)) := by go_grown
  have H : Hid (SpsAt z ((x.alloc (.cells #[.bool a, .slice p L.length cap, .bool c, .int .i64 l, .int .i64 u] 31)).alloc (.cells #[.bool a, .slice p' L.length cap', .bool c, .int .i64 l, .int .i64 u] 31)) B E (.slice p L.length cap) L) := h.later hA
  have H' : Hid (SpsAt z' ((x.alloc (.cells #[.bool a, .slice p L.length cap, .bool c, .int .i64 l, .int .i64 u] 31)).alloc (.cells #[.bool a, .slice p' L.length cap', .bool c, .int .i64 l, .int .i64 u] 31)) C D (.slice p' L.length cap') L) := h'.later hA
  have K2 : Hid (Bx5 ((x.alloc (.cells #[.bool a, .slice p L.length cap, .bool c, .int .i64 l, .int .i64 u] 31)).alloc (.cells #[.bool a, .slice p' L.length cap', .bool c, .int .i64 l, .int .i64 u] 31)) x.heap.size (.bool a) (.slice p L.length cap) (.bool c) (.int .i64 l) (.int .i64 u)) := (Bx5.new _ _ _ _ _ _ _).alloc _
  have K3 : Hid (Bx5 ((x.alloc (.cells #[.bool a, .slice p L.length cap, .bool c, .int .i64 l, .int .i64 u] 31)).alloc (.cells #[.bool a, .slice p' L.length cap', .bool c, .int .i64 l, .int .i64 u] 31)) (x.heap.size + 1) (.bool a) (.slice p' L.length cap') (.bool c) (.int .i64 l) (.int .i64 u)) := by
    have := Bx5.new (x.alloc (.cells #[.bool a, .slice p L.length cap, .bool c, .int .i64 l, .int .i64 u] 31)) (.bool a) (.slice p' L.length cap') (.bool c) (.int .i64 l) (.int .i64 u) 31
    simp at this
    exact this
  have HA : Hid (Below x.heap.size x ((x.alloc (.cells #[.bool a, .slice p L.length cap, .bool c, .int .i64 l, .int .i64 u] 31)).alloc (.cells #[.bool a, .slice p' L.length cap', .bool c, .int .i64 l, .int .i64 u] 31))) := hA
  clear h h' hA
  generalize hL : L.length = n at *
  have HL : Hid (L.length = n) := hL
  have hm : (n : Int) ≤ 9223372036854775807 := by obtain ⟨_, _, _, hm, _⟩ := H.out; unfold maxLen at hm; omega
  clear hL
  go_enter Try.func26, Try.ntmps26
  go_wp2_with fail
  generalize (x.alloc (.cells #[.bool a, .slice p n cap, .bool c, .int .i64 l, .int .i64 u] 31)).alloc (.cells #[.bool a, .slice p' n cap', .bool c, .int .i64 l, .int .i64 u] 31) = X at H H' K2 K3 HA ⊢
  go_loopw [5] (fun i y => ∃ k : Nat, k ≤ n ∧ i = .int .i64 k ∧ ∃ q, y = X.drewN q) (fun i _ => n - (intOf i).toNat)
  case atStart => exact ⟨0, by omega, rfl, 0, rfl⟩
  case round =>
    obtain ⟨k, hk, rfl, q, rfl⟩ := hrel
    have k21 := K2.out.c1
    have k31 := K3.out.c1
    by_cases hlt : k < n
    · obtain ⟨p1, cap1, e1, hm1, hc1⟩ := H.out
      obtain ⟨p2, cap2, e2, hm2, hc2⟩ := H'.out
      rw [HL.out] at e1 e2 hc1 hc2
      injection e1 with e11 _ e13
      injection e2 with e21 _ e23
      subst e11 e13 e21 e23
      rcases hc1 with h0 | ⟨g, o, rfl, hBg, hgE, hEx, _, hins⟩
      · omega
      rcases hc2 with h0 | ⟨g', o', rfl, hBg', hgE', hEx', _, hins'⟩
      · omega
      obtain ⟨q0, q1, q2⟩ := hins k hlt
      obtain ⟨r0, r1, r2⟩ := hins' k hlt
      have hi : (k : Int) < (n : Int) := by omega
      clear hins hins' hm1 hm2
      generalize L.getD k noSp = s at q0 q1 q2 r0 r1 r2
      obtain ⟨s0, s1, s2⟩ := s
      simp only at q0 q1 q2 r0 r1 r2
      go_wp2_with fail
      go_quiet (fail)
      go_wp2_with fail
      go_roundw
      case rel => exact ⟨k + 1, by omega, by go_num, _, rfl⟩
      case measure => simp [intOf]; omega
    · have hi : ¬ (k : Int) < (n : Int) := by omega
      go_wp2_with fail
      go_ret
      exact ⟨rfl, HA.out.trans ((belowN X q).mono HA.out.size)⟩

end Go.Proofs.Ytdomalclpjijaaa

/-
  The laws' lgState at any two states: whether they read as the same one.
-/
namespace Go.Proofs.Ytdomalclpjijaaa
open Go.RowKit
set_option linter.unusedVariables false
set_option linter.unusedSimpArgs false

/-- whether two states are the same -/
def stEq (a : Bool) (L : List Sp) (c : Sp) (b : Bool) (M : List Sp) (d : Sp) : Bool := decide (a = b ∧ c = d ∧ L = M)
theorem stEq_no {a : Bool} {L : List Sp} {c : Sp} {b : Bool} {M : List Sp} {d : Sp} (h : ¬ (a = b ∧ c = d ∧ L = M)) : stEq a L c b M d = false := by simp [stEq, h]
theorem stEq_yes (a : Bool) (L : List Sp) (c : Sp) : stEq a L c a L c = true := by simp [stEq]
theorem list_getD {L M : List Sp} (h : L.length = M.length) (hj : ∀ j, j < L.length → L.getD j noSp = M.getD j noSp) : L = M := by
  apply List.ext_getElem h
  intro j h1 h2
  have := hj j h1
  rw [List.getD_eq_getElem?_getD, List.getD_eq_getElem?_getD, List.getElem?_eq_getElem h1, List.getElem?_eq_getElem h2] at this
  exact this

theorem belowNN (X : World) (q n : Nat) : Below X.heap.size X ((X.drewN q).drewN n) := (belowN X q).trans ((belowN (X.drewN q) n).mono (belowN X q).size)
set_option maxHeartbeats 4000000 in
theorem lgState_early (x : World) (p p' : Option Addr) (n m cap cap' : Nat) (a c : Bool) (l u : Int) (b d : Bool) (l' u' : Int) (hn : n ≤ 1000) (hm : m ≤ 1000) (hne : ¬ (a = b ∧ c = d ∧ l = l' ∧ u = u' ∧ n = m)) :
    Calls Try.prog 26 #[.agg #[.bool a, .slice p n cap, .bool c, .int .i64 l, .int .i64 u], .agg #[.bool b, .slice p' m cap', .bool d, .int .i64 l', .int .i64 u']] x fun e y => e = .returned (.bool false) ∧ Below x.heap.size x y := by
  by_cases ha : a = b
  · subst ha
    by_cases hc : c = d
    · subst hc
      by_cases hl : l = l'
      · subst hl
        by_cases hu : u = u'
        · subst hu
          have hx0 : ¬ n = m := fun e => hne ⟨rfl, rfl, rfl, rfl, e⟩
          have hx : ¬ (n : Int) = (m : Int) := by omega
          clear hne hn hm
          go_enter Try.func26, Try.ntmps26
          go_wp2_with fail
          all_goals
            go_ret
            exact ⟨rfl, by go_grown⟩
        · clear hne hn hm
          go_enter Try.func26, Try.ntmps26
          go_wp2_with fail
          all_goals
            go_ret
            exact ⟨rfl, by go_grown⟩
      · clear hne hn hm
        go_enter Try.func26, Try.ntmps26
        go_wp2_with fail
        all_goals
          go_ret
          exact ⟨rfl, by go_grown⟩
    · clear hne hn hm
      cases c <;> cases d <;> first
        | exact absurd rfl hc
        | (clear hc
           go_enter Try.func26, Try.ntmps26
           go_wp2_with fail
           all_goals
             go_ret
             exact ⟨rfl, by go_grown⟩)
  · clear hne hn hm
    cases a <;> cases b <;> first
      | exact absurd rfl ha
      | (clear ha
         go_enter Try.func26, Try.ntmps26
         go_wp2_with fail
         all_goals
           go_ret
           exact ⟨rfl, by go_grown⟩)

set_option maxHeartbeats 4000000 in
theorem lgState_any (x : World) (z z' : Bool) (B E C D : Nat) (a : Bool) (v : Value) (L : List Sp) (c : Bool) (l u : Int) (b : Bool) (v' : Value) (M : List Sp) (d : Bool) (l' u' : Int) (h : SpsAt z x B E v L) (h' : SpsAt z' x C D v' M) (hn : L.length ≤ 1000) (hm : M.length ≤ 1000) :
    Calls Try.prog 26 #[.agg #[.bool a, v, .bool c, .int .i64 l, .int .i64 u], .agg #[.bool b, v', .bool d, .int .i64 l', .int .i64 u']] x fun e y => e = .returned (.bool (stEq a L (c, l, u) b M (d, l', u'))) ∧ Below x.heap.size x y := by
  obtain ⟨p, cap, rfl⟩ := h.shape
  obtain ⟨p', cap', rfl⟩ := h'.shape
  by_cases hne : a = b ∧ c = d ∧ l = l' ∧ u = u' ∧ L.length = M.length
  · obtain ⟨rfl, rfl, rfl, rfl, hlen⟩ := hne
    have hA : Below x.heap.size x ((x.alloc (.cells #[.bool a, .slice p L.length cap, .bool c, .int .i64 l, .int .i64 u] 31)).alloc (.cells #[.bool a, .slice p' L.length cap', .bool c, .int .i64 l, .int .i64 u] 31)) := by go_grown
    rw [← hlen] at h' ⊢
    have H : Hid (SpsAt z ((x.alloc (.cells #[.bool a, .slice p L.length cap, .bool c, .int .i64 l, .int .i64 u] 31)).alloc (.cells #[.bool a, .slice p' L.length cap', .bool c, .int .i64 l, .int .i64 u] 31)) B E (.slice p L.length cap) L) := h.later hA
    have H' : Hid (SpsAt z' ((x.alloc (.cells #[.bool a, .slice p L.length cap, .bool c, .int .i64 l, .int .i64 u] 31)).alloc (.cells #[.bool a, .slice p' L.length cap', .bool c, .int .i64 l, .int .i64 u] 31)) C D (.slice p' L.length cap') M) := h'.later hA
    have K2 : Hid (Bx5 ((x.alloc (.cells #[.bool a, .slice p L.length cap, .bool c, .int .i64 l, .int .i64 u] 31)).alloc (.cells #[.bool a, .slice p' L.length cap', .bool c, .int .i64 l, .int .i64 u] 31)) x.heap.size (.bool a) (.slice p L.length cap) (.bool c) (.int .i64 l) (.int .i64 u)) := (Bx5.new _ _ _ _ _ _ _).alloc _
    have K3 : Hid (Bx5 ((x.alloc (.cells #[.bool a, .slice p L.length cap, .bool c, .int .i64 l, .int .i64 u] 31)).alloc (.cells #[.bool a, .slice p' L.length cap', .bool c, .int .i64 l, .int .i64 u] 31)) (x.heap.size + 1) (.bool a) (.slice p' L.length cap') (.bool c) (.int .i64 l) (.int .i64 u)) := by
      have := Bx5.new (x.alloc (.cells #[.bool a, .slice p L.length cap, .bool c, .int .i64 l, .int .i64 u] 31)) (.bool a) (.slice p' L.length cap') (.bool c) (.int .i64 l) (.int .i64 u) 31
      simp at this
      exact this
    have HA : Hid (Below x.heap.size x ((x.alloc (.cells #[.bool a, .slice p L.length cap, .bool c, .int .i64 l, .int .i64 u] 31)).alloc (.cells #[.bool a, .slice p' L.length cap', .bool c, .int .i64 l, .int .i64 u] 31))) := hA
    clear h h' hA
    generalize hL : L.length = n at *
    have HL : Hid (L.length = n ∧ M.length = n) := ⟨hL, hlen.symm⟩
    have hm : (n : Int) ≤ 9223372036854775807 := by omega
    clear hL hlen hn
    go_enter Try.func26, Try.ntmps26
    go_wp2_with fail
    generalize (x.alloc (.cells #[.bool a, .slice p n cap, .bool c, .int .i64 l, .int .i64 u] 31)).alloc (.cells #[.bool a, .slice p' n cap', .bool c, .int .i64 l, .int .i64 u] 31) = X at H H' K2 K3 HA ⊢
    go_loopw [5] (fun i y => ∃ k : Nat, k ≤ n ∧ i = .int .i64 k ∧ (∀ j, j < k → L.getD j noSp = M.getD j noSp) ∧ ∃ q, y = X.drewN q) (fun i _ => n - (intOf i).toNat)
    case atStart => exact ⟨0, by omega, rfl, fun j hj => by omega, 0, rfl⟩
    case round =>
      obtain ⟨k, hk, rfl, hd, q, rfl⟩ := hrel
      have HD : Hid (∀ j, j < k → L.getD j noSp = M.getD j noSp) := hd
      clear hd
      have k21 := K2.out.c1
      have k31 := K3.out.c1
      by_cases hlt : k < n
      · obtain ⟨p1, cap1, e1, hm1, hc1⟩ := H.out
        obtain ⟨p2, cap2, e2, hm2, hc2⟩ := H'.out
        rw [HL.out.1] at e1 hc1
        rw [HL.out.2] at e2 hc2
        injection e1 with e11 _ e13
        injection e2 with e21 _ e23
        subst e11 e13 e21 e23
        rcases hc1 with h0 | ⟨g, o, rfl, hBg, hgE, hEx, _, hins⟩
        · omega
        rcases hc2 with h0 | ⟨g', o', rfl, hBg', hgE', hEx', _, hins'⟩
        · omega
        obtain ⟨q0, q1, q2⟩ := hins k hlt
        obtain ⟨r0, r1, r2⟩ := hins' k hlt
        have hi : (k : Int) < (n : Int) := by omega
        clear hins hins' hm1 hm2
        generalize hI : L.getD k noSp = s at q0 q1 q2
        have HI : Hid (L.getD k noSp = s) := hI
        clear hI
        generalize hJ : M.getD k noSp = t at r0 r1 r2
        have HJ : Hid (M.getD k noSp = t) := hJ
        clear hJ
        obtain ⟨s0, s1, s2⟩ := s
        obtain ⟨t0, t1, t2⟩ := t
        simp only at q0 q1 q2 r0 r1 r2
        have hno : ¬ ((s0, s1, s2) : Sp) = (t0, t1, t2) → stEq a L (c, l, u) a M (c, l, u) = false := fun hst => stEq_no fun h => hst (by rw [← HI.out, ← HJ.out, h.2.2])
        have HNo : Hid (¬ ((s0, s1, s2) : Sp) = (t0, t1, t2) → stEq a L (c, l, u) a M (c, l, u) = false) := hno
        clear hno
        by_cases h0 : s0 = t0
        · subst h0
          by_cases h1 : s1 = t1
          · subst h1
            by_cases h2 : s2 = t2
            · subst h2
              go_wp2_with fail
              go_quiet (fail)
              go_wp2_with fail
              go_roundw
              case rel =>
                refine ⟨k + 1, by omega, by go_num, fun j hj => ?_, _, rfl⟩
                by_cases hjk : j = k
                · subst hjk; rw [HI.out, HJ.out]
                · exact HD.out j (by omega)
              case measure => simp [intOf]; omega
            · go_wp2_with fail
              go_quiet (fail)
              go_wp2_with fail
              all_goals
                go_ret
                exact ⟨by rw [HNo.out (by simp [h2])]; rfl, HA.out.trans ((belowNN X _ _).mono HA.out.size)⟩
          · go_wp2_with fail
            go_quiet (fail)
            go_wp2_with fail
            all_goals
              go_ret
              exact ⟨by rw [HNo.out (by simp [h1])]; rfl, HA.out.trans ((belowNN X _ _).mono HA.out.size)⟩
        · have hn2 := HNo.out (by simp [h0])
          have HN2 : Hid (stEq a L (c, l, u) a M (c, l, u) = false) := hn2
          clear hn2 HNo
          cases s0 <;> cases t0 <;> first
            | exact absurd rfl h0
            | (clear h0
               go_wp2_with fail
               go_quiet (fail)
               go_wp2_with fail
               all_goals
                 go_ret
                 exact ⟨by rw [HN2.out]; rfl, HA.out.trans ((belowNN X _ _).mono HA.out.size)⟩)
      · have hi : ¬ (k : Int) < (n : Int) := by omega
        have hLM : L = M := list_getD (by rw [HL.out.1, HL.out.2]) fun j hj => HD.out j (by rw [HL.out.1] at hj; omega)
        have HLM : Hid (L = M) := hLM
        clear hLM
        go_wp2_with fail
        go_ret
        exact ⟨by rw [HLM.out, stEq_yes]; rfl, HA.out.trans ((belowN X q).mono HA.out.size)⟩
  · rw [stEq_no (fun hh => hne ⟨hh.1, by have := hh.2.1; simp at this; exact this.1, by have := hh.2.1; simp at this; exact this.2.1, by have := hh.2.1; simp at this; exact this.2.2, by rw [hh.2.2]⟩)]
    exact lgState_early x p p' _ _ cap cap' a c l u b d l' u' hn hm hne
end Go.Proofs.Ytdomalclpjijaaa
