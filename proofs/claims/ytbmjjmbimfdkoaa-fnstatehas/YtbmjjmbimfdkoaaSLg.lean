/-
  The laws' lgState at two states that read as the same one.
-/
import Derived.Test.YtbmjjmbimfdkoaaSEq
import Derived.Test.YtbmjjmbimfdkoaaSInt
namespace Go.Proofs.Ytbmjjmbimfdkoaa
open Go.RowKit
set_option linter.unusedVariables false
set_option linter.unusedSimpArgs false

set_option maxHeartbeats 2000000 in
theorem lgState_same (x : World) (z z' : Bool) (B E C D : Nat) (a : Bool) (v v' : Value) (L : List Sp) (c : Bool) (l u : Int) (h : SpsAt z x B E v L) (h' : SpsAt z' x C D v' L) :
    Calls Try.prog 36 #[.agg #[.bool a, v, .bool c, .int .i64 l, .int .i64 u], .agg #[.bool a, v', .bool c, .int .i64 l, .int .i64 u]] x fun e y => e = .returned (.bool true) ∧ Below x.heap.size x y := by
  obtain ⟨p, cap, rfl⟩ := h.shape
  obtain ⟨p', cap', rfl⟩ := h'.shape
  have hA : Below x.heap.size x ((x.alloc (.cells #[.bool a, .slice p L.length cap, .bool c, .int .i64 l, .int .i64 u] 32)).alloc (.cells #[.bool a, .slice p' L.length cap', .bool c, .int .i64 l, .int .i64 u] 32)) := by go_grown
  have H : Hid (SpsAt z ((x.alloc (.cells #[.bool a, .slice p L.length cap, .bool c, .int .i64 l, .int .i64 u] 32)).alloc (.cells #[.bool a, .slice p' L.length cap', .bool c, .int .i64 l, .int .i64 u] 32)) B E (.slice p L.length cap) L) := h.later hA
  have H' : Hid (SpsAt z' ((x.alloc (.cells #[.bool a, .slice p L.length cap, .bool c, .int .i64 l, .int .i64 u] 32)).alloc (.cells #[.bool a, .slice p' L.length cap', .bool c, .int .i64 l, .int .i64 u] 32)) C D (.slice p' L.length cap') L) := h'.later hA
  have K2 : Hid (Bx5 ((x.alloc (.cells #[.bool a, .slice p L.length cap, .bool c, .int .i64 l, .int .i64 u] 32)).alloc (.cells #[.bool a, .slice p' L.length cap', .bool c, .int .i64 l, .int .i64 u] 32)) x.heap.size (.bool a) (.slice p L.length cap) (.bool c) (.int .i64 l) (.int .i64 u)) := (Bx5.new _ _ _ _ _ _ _).alloc _
  have K3 : Hid (Bx5 ((x.alloc (.cells #[.bool a, .slice p L.length cap, .bool c, .int .i64 l, .int .i64 u] 32)).alloc (.cells #[.bool a, .slice p' L.length cap', .bool c, .int .i64 l, .int .i64 u] 32)) (x.heap.size + 1) (.bool a) (.slice p' L.length cap') (.bool c) (.int .i64 l) (.int .i64 u)) := by
    have := Bx5.new (x.alloc (.cells #[.bool a, .slice p L.length cap, .bool c, .int .i64 l, .int .i64 u] 32)) (.bool a) (.slice p' L.length cap') (.bool c) (.int .i64 l) (.int .i64 u) 32
    simp at this
    exact this
  have HA : Hid (Below x.heap.size x ((x.alloc (.cells #[.bool a, .slice p L.length cap, .bool c, .int .i64 l, .int .i64 u] 32)).alloc (.cells #[.bool a, .slice p' L.length cap', .bool c, .int .i64 l, .int .i64 u] 32))) := hA
  clear h h' hA
  generalize hL : L.length = n at *
  have HL : Hid (L.length = n) := hL
  have hm : (n : Int) ≤ 9223372036854775807 := by obtain ⟨_, _, _, hm, _⟩ := H.out; unfold maxLen at hm; omega
  clear hL
  go_enter Try.func36, Try.ntmps36
  go_wp2_with fail
  generalize (x.alloc (.cells #[.bool a, .slice p n cap, .bool c, .int .i64 l, .int .i64 u] 32)).alloc (.cells #[.bool a, .slice p' n cap', .bool c, .int .i64 l, .int .i64 u] 32) = X at H H' K2 K3 HA ⊢
  go_loopw [5] (fun i y => ∃ k : Nat, k ≤ n ∧ i = .int .i64 k ∧ ∃ q, y = X.drewN q) (fun i _ => n - (intOf i).toNat)
  case atStart => exact ⟨0, by omega, rfl, 0, rfl⟩
  case round =>
    obtain ⟨k, hk, rfl, q, rfl⟩ := hrel
    have k21 := K2.out.c1
    have k31 := K3.out.c1
    by_cases hlt : k < n
    · obtain ⟨p1, cap1, e1, hm1, hc1⟩ := H.out
      obtain ⟨p2, cap2, e2, hm2, hc2⟩ := H'.out
      rw [HL.out] at e1 e2 hc1 hc2
      injection e1 with e11 _ e13
      injection e2 with e21 _ e23
      subst e11 e13 e21 e23
      rcases hc1 with h0 | ⟨g, o, rfl, hBg, hgE, hEx, _, hins⟩
      · omega
      rcases hc2 with h0 | ⟨g', o', rfl, hBg', hgE', hEx', _, hins'⟩
      · omega
      obtain ⟨q0, q1, q2⟩ := hins k hlt
      obtain ⟨r0, r1, r2⟩ := hins' k hlt
      have hi : (k : Int) < (n : Int) := by omega
      clear hins hins' hm1 hm2
      generalize L.getD k noSp = s at q0 q1 q2 r0 r1 r2
      obtain ⟨s0, s1, s2⟩ := s
      simp only at q0 q1 q2 r0 r1 r2
      go_wp2_with fail
      go_quiet (fail)
      go_wp2_with fail
      go_roundw
      case rel => exact ⟨k + 1, by omega, by go_num, _, rfl⟩
      case measure => simp [intOf]; omega
    · have hi : ¬ (k : Int) < (n : Int) := by omega
      go_wp2_with fail
      go_ret
      exact ⟨rfl, HA.out.trans ((belowN X q).mono HA.out.size)⟩

end Go.Proofs.Ytbmjjmbimfdkoaa
