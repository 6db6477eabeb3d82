/-
  The contracts of the laws' own helpers on rows of numbers: the same (eqIntS), marked (markIntS), held (heldIntS).
-/
import Derived.Test.YtbmjjmbimfdkoaaKinds
namespace Go.Proofs.Ytbmjjmbimfdkoaa
open Go.RowKit
set_option linter.unusedVariables false
set_option linter.unusedSimpArgs false

theorem Owns.lower {x : World} {B C : Nat} {v : Value} {L : List Int} (h : Owns x B v L) (hc : C ≤ B) : Owns x C v L := by
  refine ⟨h.1, ?_⟩
  rcases h.2 with hn | ⟨g, cap, cur, e, hb, rest⟩
  · exact .inl hn
  · exact .inr ⟨g, cap, cur, e, Nat.le_trans hc hb, rest⟩
theorem Owns.drawn {x : World} {B : Nat} {v : Value} {L : List Int} (h : Owns x B v L) (n : Nat) : Owns (x.drewN n) B v L := by
  induction n with
  | zero => exact h
  | succ n ih => exact ih
/-- what an owned row looks like: of no number, or its cells one by one -/
theorem Owns.look {x : World} {B : Nat} {v : Value} {L : List Int} (h : Owns x B v L) :
    ∃ p cap, v = .slice p L.length cap ∧ L.length ≤ maxLen ∧ (L.length = 0 ∨ ∃ g, p = some ⟨g, 0, none⟩ ∧ B ≤ g ∧ g < x.heap.size ∧ ∀ j, j < L.length → x.cell? ⟨g, j, none⟩ = some (.int .i64 (L.getD j 0)) ∧ x.frozen? ⟨g, j, none⟩ = false) := by
  rcases h.2 with ⟨e, hn⟩ | ⟨g, cap, cur, e, hb, hg, hnc, hcm, hcs, ht⟩
  · refine ⟨none, 0, ?_, by unfold maxLen; omega, .inl hn⟩
    rw [e, hn]
  · refine ⟨_, cap, e, by omega, .inr ⟨g, rfl, hb, (Array.getElem?_eq_some_iff.1 hg).1, fun j hj => ?_⟩⟩
    subst e
    refine ⟨?_, World.ownsRow.frozenAt h j⟩
    rw [World.ownsRow.cellAt h j (by omega)]
    simp [List.getElem?_eq_getElem hj, List.getD]

set_option maxHeartbeats 1000000 in
theorem eqInts_same (x : World) (B C : Nat) (v v' : Value) (L : List Int) (h : Owns x B v L) (h' : Owns x C v' L) :
    Calls Try.prog 27 #[v, v'] x fun e y => e = .returned (.bool true) ∧ ∃ n, y = x.drewN n := by
  obtain ⟨p, cap, rfl, hm, hl⟩ := h.look
  obtain ⟨p', cap', rfl, _, hl'⟩ := h'.look
  clear h h'
  unfold maxLen at hm
  generalize hn : L.length = n at *
  have HN : Hid (L.length = n) := hn
  clear hn
  rcases hl with h0 | ⟨g, rfl, hg, hgx, hc⟩
  · subst h0
    go_enter Try.func27, Try.ntmps27
    go_wp2
    go_rounds 1
    go_ret
    exact ⟨rfl, 0, rfl⟩
  · rcases hl' with h0 | ⟨g', rfl, hg', hgx', hc'⟩
    · subst h0
      go_enter Try.func27, Try.ntmps27
      go_wp2
      go_rounds 1
      go_ret
      exact ⟨rfl, 0, rfl⟩
    · have H1 : Hid (∀ j, j < n → x.cell? ⟨g, j, none⟩ = some (.int .i64 (L.getD j 0)) ∧ x.frozen? ⟨g, j, none⟩ = false) := hc
      have H2 : Hid (∀ j, j < n → x.cell? ⟨g', j, none⟩ = some (.int .i64 (L.getD j 0)) ∧ x.frozen? ⟨g', j, none⟩ = false) := hc'
      clear hc hc'
      go_enter Try.func27, Try.ntmps27
      go_wp2
      go_loopw [5] (fun i y => ∃ k : Nat, k ≤ n ∧ i = .int .i64 k ∧ ∃ q, y = x.drewN q) (fun i _ => n - (intOf i).toNat)
      case atStart => exact ⟨0, by omega, rfl, 0, rfl⟩
      case round =>
        obtain ⟨k, hk, rfl, q, rfl⟩ := hrel
        by_cases hlt : k < n
        · have c1 := (H1.out k hlt).1
          have c2 := (H2.out k hlt).1
          have hi : (k : Int) < (n : Int) := by omega
          generalize L.getD k 0 = z at c1 c2
          go_wp2
          go_quiet (fail)
          go_wp2
          go_roundw
          case rel => exact ⟨k + 1, by omega, by go_num, _, rfl⟩
          case measure => simp [intOf]; omega
        · have hi : ¬ (k : Int) < (n : Int) := by omega
          go_wp2
          go_ret
          exact ⟨rfl, q, rfl⟩

end Go.Proofs.Ytbmjjmbimfdkoaa
