/-
  Small facts for the walk of the law FnSpanKinds.
-/
import Derived.Test.YtlnfjjciilieeaaKindsM
namespace Go.Proofs.Ytlnfjjciilieeaa
open Go.RowKit
set_option linter.unusedVariables false
set_option linter.unusedSimpArgs false

/-- what 'found' holds of kind j at word n behind k kinds -/
def DJ (c n : Int) (t : Bool) (j k : Int) : Int := if t = true ∧ knF n = j ∧ j < k then 1 else c
def OF (n k : Int) : Int := if knF n < k then 1 else 0
theorem knF_bd (n : Int) : 0 ≤ knF n ∧ knF n ≤ 2 := by
  unfold knF
  split
  · omega
  · split <;> omega
theorem dj_zero {c n : Int} {t : Bool} {j : Int} (hj : 0 ≤ j) : c = DJ c n t j 0 := by unfold DJ; rw [if_neg (by omega)]
theorem dj_stay {c n : Int} {t : Bool} {j k : Int} (h : knF n ≠ k) : DJ c n t j (k + 1) = DJ c n t j k := by
  unfold DJ
  by_cases e : t = true ∧ knF n = j ∧ j < k
  · rw [if_pos e, if_pos ⟨e.1, e.2.1, by omega⟩]
  · rw [if_neg e, if_neg (fun q => e ⟨q.1, q.2.1, by omega⟩)]
theorem dj_no {c n : Int} {j k k' : Int} : DJ c n false j k = DJ c n false j k' := by unfold DJ; simp
theorem dj_one {c n : Int} {k : Int} (h : knF n = k) : DJ c n true k (k + 1) = 1 := by unfold DJ; rw [if_pos ⟨rfl, h, by omega⟩]
theorem dj_other {c n : Int} {t : Bool} {j k k' : Int} (h : knF n ≠ j) : DJ c n t j k = DJ c n t j k' := by unfold DJ; rw [if_neg (fun q => h q.2.1), if_neg (fun q => h q.2.1)]
theorem of_zero (n : Int) : (0 : Int) = OF n 0 := by unfold OF; have := knF_bd n; rw [if_neg (by omega)]
theorem of_stay {n k : Int} (h : knF n ≠ k) : OF n (k + 1) = OF n k := by unfold OF; by_cases e : knF n < k; rw [if_pos e, if_pos (by omega)]; rw [if_neg e, if_neg (by omega)]
theorem of_at0 {n k : Int} (h : knF n = k) : OF n k = 0 := by unfold OF; rw [if_neg (by omega)]
theorem of_at1 {n k : Int} (h : knF n = k) : OF n (k + 1) = 1 := by unfold OF; rw [if_pos (by omega)]
theorem of_three (n : Int) : OF n 3 = 1 := by unfold OF; have := knF_bd n; rw [if_pos (by omega)]
theorem Fd.next {a : Bool} {l u n c : Int} {t : Bool} {j : Int} (hj : 0 ≤ j ∧ j < 3) (h0 : -16 ≤ n) (ht : hasF a l u n = t) (h : Fd a l u j n c) : Fd a l u j (n + 1) (DJ c n t j 3) := by
  unfold DJ
  by_cases e : t = true ∧ knF n = j ∧ j < 3
  · rw [if_pos e]; exact Fd.one h0 (by rw [ht]; exact e.1) e.2.1
  · rw [if_neg e]; exact h.stay (fun q => e ⟨by rw [← ht]; exact q.1, q.2, by omega⟩)

theorem kind_at {k pl ph : Int} {p : Bool} (h : kindF k = (p, pl, ph)) (w : World) : Calls Try.prog 36 #[.int .i64 k] w fun e w' => e = .returned (.agg #[.bool p, .int .i64 pl, .int .i64 ph]) ∧ Below w.heap.size w w' :=
  (kind_impl k w).mono fun e w' ⟨h1, h2⟩ => ⟨by rw [h] at h1; exact h1, h2⟩
theorem lgHas_at {x : World} {B : Nat} {v : Value} {L : List Int} {c : Int} {m : Bool} (h : Owns x B v L) (hm : hasL L c = m) :
    Calls Try.prog 37 #[v, .int .i64 c] x fun e y => e = .returned (.bool m) ∧ Below x.heap.size x y :=
  (lgHas_any x B v L c h).mono fun e y ⟨h1, h2⟩ => ⟨by rw [hm] at h1; exact h1, by rw [h2]; exact Below.refl _ _⟩
theorem has_kind {k n pl ph : Int} {p b : Bool} (h : kindF k = (p, pl, ph)) (hk : k = 0 ∨ k = 1 ∨ k = 2) (hn : -16 ≤ n ∧ n ≤ 15) (hb : decide (knF n = k) = b) : hasF p pl ph n = b := by
  have := kind_has hk hn; rw [h] at this; rw [← hb]; exact this
end Go.Proofs.Ytlnfjjciilieeaa
