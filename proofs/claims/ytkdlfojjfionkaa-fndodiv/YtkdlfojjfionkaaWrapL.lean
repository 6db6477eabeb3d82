/-
  The walk of the law FnWrapWord.
-/
import Derived.Test.YtkdlfojjfionkaaDraw
namespace Go.Proofs.Ytkdlfojjfionkaa
open Go.RowKit
set_option linter.unusedVariables false
set_option linter.unusedSimpArgs false

theorem row_len {w : World} {a : Option Addr} {len cap : Nat} {zs : List Int} (h : IsRow w a len cap zs) : len ≤ maxLen := by
  rcases h with ⟨rfl, rfl, rfl, rfl⟩ | ⟨x, rfl, hl, hm, hz, hcell, hwz⟩
  · exact Nat.zero_le _
  · omega
theorem wrap_idem (n : Int) : wrapF (wrapF n) = wrapF n := by
  have h := wrapF_bd n
  generalize wrapF n = m at *
  unfold wrapF
  have e : m.tmod 32 = m := by
    rcases Int.le_total 0 m with hm | hm
    · rw [Int.tmod_eq_emod_of_nonneg hm]; omega
    · have e1 : m.tmod 32 = -((-m).tmod 32) := by rw [Int.neg_tmod]; omega
      rw [e1, Int.tmod_eq_emod_of_nonneg (by omega)]; omega
  rw [e]
  repeat' split
  all_goals omega
theorem wrap_mod (n : Int) : (n.tmod 32 - wrapF n).tmod 32 = 0 := by
  unfold wrapF
  repeat' split
  · rw [show n.tmod 32 - (n.tmod 32 + 32) = -32 from by omega]; decide
  · rw [show n.tmod 32 - (n.tmod 32 - 32) = 32 from by omega]; decide
  · rw [show n.tmod 32 - n.tmod 32 = 0 from by omega]; decide

set_option maxHeartbeats 1000000 in
theorem wrapWord_walk (a : Option Addr) (len cap : Nat) (zs : List Int) (w : World) (h : IsRow w a len cap zs) :
    Calls Try.prog 12 #[.slice a len cap] w fun e w' => e = .returned (.bool true) ∧ Below w.heap.size w w' := by
  have hm := row_len h
  unfold maxLen at hm
  by_cases hl : (1048576 : Int) < (len : Int)
  · clear h
    go_enter Try.func12, Try.ntmps12
    go_wp2
    go_ret
    exact ⟨rfl, by go_grown⟩
  · go_enter Try.func12, Try.ntmps12
    go_wp2_with fail
    refine (drawNumWrap_any a len cap zs _ h).mono ?_
    rintro e x ⟨n, rfl, n0, n1, hb⟩
    have b1 := Int.tmod_lt_of_pos n (b := 32) (by omega)
    have b2 := Int.lt_tmod_of_pos n (b := 32) (by omega)
    obtain ⟨v, hv, v0, v1⟩ : ∃ v, Hid (wrapF n = v) ∧ -16 ≤ v ∧ v ≤ 15 := ⟨_, rfl, (wrapF_bd n).1, (wrapF_bd n).2⟩
    have hi : Hid (wrapF v = v) := by have := wrap_idem n; rw [hv.out] at this; exact this
    have hmod : ((n.tmod 32 - v).tmod 32 == 0) = true := by have := wrap_mod n; rw [hv.out] at this; simp [this]
    go_wp2_with (first | (go_at_call 16; refine (wrap_impl _ _).mono ?_; rintro e w' ⟨rfl, rfl⟩; first | rw [hv.out] | rw [hi.out]) | (go_at_call 15; refine (wrap_spec _ _).mono ?_; rintro e w' ⟨rfl, rfl⟩; rw [hv.out]))
    go_ret
    exact ⟨rfl, hb⟩
end Go.Proofs.Ytkdlfojjfionkaa
