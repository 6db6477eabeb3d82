/-
  The contracts of the helpers that the law FnSpanKinds uses: two rows are the same (lgInts), a row has a number (lgHas); its draw; plain mathematics of kinds.
-/
import Derived.Test.YtlnfjjciilieeaaIntsC
import Derived.Test.YtlnfjjciilieeaaDrawM
import Derived.Test.YtlnfjjciilieeaaDoN
namespace Go.Proofs.Ytlnfjjciilieeaa
open Go.RowKit
set_option linter.unusedVariables false
set_option linter.unusedSimpArgs false

set_option maxHeartbeats 1000000 in
theorem lgInts_same (x : World) (B C : Nat) (v v' : Value) (L : List Int) (h : Owns x B v L) (h' : Owns x C v' L) :
    Calls Try.prog 34 #[v, v'] x fun e y => e = .returned (.bool true) ∧ ∃ n, y = x.drewN n := by
  obtain ⟨p, cap, rfl, hm, hl⟩ := h.look
  obtain ⟨p', cap', rfl, _, hl'⟩ := h'.look
  clear h h'
  unfold maxLen at hm
  generalize hn : L.length = n at *
  have HN : Hid (L.length = n) := hn
  clear hn
  rcases hl with h0 | ⟨g, rfl, hg, hgx, hc⟩
  · subst h0
    go_enter Try.func34, Try.ntmps34
    go_wp2
    go_rounds 1
    go_ret
    exact ⟨rfl, 0, rfl⟩
  · rcases hl' with h0 | ⟨g', rfl, hg', hgx', hc'⟩
    · subst h0
      go_enter Try.func34, Try.ntmps34
      go_wp2
      go_rounds 1
      go_ret
      exact ⟨rfl, 0, rfl⟩
    · have H1 : Hid (∀ j, j < n → x.cell? ⟨g, j, none⟩ = some (.int .i64 (L.getD j 0)) ∧ x.frozen? ⟨g, j, none⟩ = false) := hc
      have H2 : Hid (∀ j, j < n → x.cell? ⟨g', j, none⟩ = some (.int .i64 (L.getD j 0)) ∧ x.frozen? ⟨g', j, none⟩ = false) := hc'
      clear hc hc'
      go_enter Try.func34, Try.ntmps34
      go_wp2
      go_loopw [5] (fun i y => ∃ k : Nat, k ≤ n ∧ i = .int .i64 k ∧ ∃ q, y = x.drewN q) (fun i _ => n - (intOf i).toNat)
      case atStart => exact ⟨0, by omega, rfl, 0, rfl⟩
      case round =>
        obtain ⟨k, hk, rfl, q, rfl⟩ := hrel
        by_cases hlt : k < n
        · have c1 := (H1.out k hlt).1
          have c2 := (H2.out k hlt).1
          have hi : (k : Int) < (n : Int) := by omega
          generalize L.getD k 0 = z at c1 c2
          go_wp2
          go_quiet (fail)
          go_wp2
          go_roundw
          case rel => exact ⟨k + 1, by omega, by go_num, _, rfl⟩
          case measure => simp [intOf]; omega
        · have hi : ¬ (k : Int) < (n : Int) := by omega
          go_wp2
          go_ret
          exact ⟨rfl, q, rfl⟩

theorem lgInts_b (x : World) (B C : Nat) (v v' : Value) (L : List Int) (h : Owns x B v L) (h' : Owns x C v' L) :
    Calls Try.prog 34 #[v, v'] x fun e y => e = .returned (.bool true) ∧ Below x.heap.size x y := by
  refine (lgInts_same x B C v v' L h h').mono ?_
  rintro e y ⟨he, n, rfl⟩
  refine ⟨he, ?_⟩
  clear he
  induction n with
  | zero => exact Below.refl _ _
  | succ n ih => exact ih.drew

def hasL (L : List Int) (c : Int) : Bool := L.any fun z => z == c
theorem hasL_yes {L : List Int} {c : Int} {j : Nat} (hj : j < L.length) (h : L.getD j 0 = c) : hasL L c = true := by
  unfold hasL
  rw [List.any_eq_true]
  refine ⟨L[j], List.getElem_mem hj, ?_⟩
  have : L.getD j 0 = L[j] := by simp [List.getD, hj]
  rw [this] at h
  simp [h]
theorem hasL_no {L : List Int} {c : Int} (h : ∀ j, j < L.length → L.getD j 0 ≠ c) : hasL L c = false := by
  unfold hasL
  rw [List.any_eq_false]
  intro z hz
  obtain ⟨j, hj, rfl⟩ := List.getElem_of_mem hz
  have := h j hj
  simpa [List.getD, hj] using this

set_option maxHeartbeats 1000000 in
theorem lgHas_any (x : World) (B : Nat) (v : Value) (L : List Int) (c : Int) (h : Owns x B v L) :
    Calls Try.prog 37 #[v, .int .i64 c] x fun e y => e = .returned (.bool (hasL L c)) ∧ y = x := by
  obtain ⟨p, cap, rfl, hm, hl⟩ := h.look
  clear h
  unfold maxLen at hm
  have HY : Hid (∀ j, j < L.length → L.getD j 0 = c → hasL L c = true) := fun j => hasL_yes
  have HZ : Hid ((∀ j, j < L.length → L.getD j 0 ≠ c) → hasL L c = false) := hasL_no
  generalize hasL L c = r at *
  generalize hn : L.length = n at *
  have HN : Hid (L.length = n) := hn
  clear hn
  rcases hl with h0 | ⟨g, rfl, hg, hgx, hc⟩
  · subst h0
    have hr := HZ.out (fun j hj => absurd hj (by omega))
    subst hr
    go_enter Try.func37, Try.ntmps37
    go_wp2
    go_rounds 1
    go_ret
    exact ⟨rfl, rfl⟩
  · have H1 : Hid (∀ j, j < n → x.cell? ⟨g, j, none⟩ = some (.int .i64 (L.getD j 0)) ∧ x.frozen? ⟨g, j, none⟩ = false) := hc
    clear hc
    go_enter Try.func37, Try.ntmps37
    go_wp2
    go_loop [5] (fun i => ∃ k : Nat, k ≤ n ∧ i = .int .i64 k ∧ Hid (∀ j, j < k → L.getD j 0 ≠ c)) (fun i => n - (intOf i).toNat)
    case atStart => exact ⟨0, Nat.zero_le _, rfl, fun j hj => absurd hj (by omega)⟩
    case round =>
      obtain ⟨k, hk, rfl, HK⟩ := hrel
      by_cases hlt : k < n
      · have hc1 := (H1.out k hlt).1
        by_cases he : L.getD k 0 = c
        · have hr := HY.out k hlt he
          subst hr
          rw [he] at hc1
          clear he
          go_wp2
          go_ret
          exact ⟨rfl, rfl⟩
        · have HE : Hid (L.getD k 0 ≠ c) := he
          have HS : Hid (∀ j, j < k + 1 → L.getD j 0 ≠ c) := fun j hj => by
            by_cases e : j = k
            · rw [e]; exact HE.out
            · exact HK.out j (by omega)
          generalize L.getD k 0 = z at hc1 he
          have he' : (z == c) = false := by simp [he]
          have he'' : decide (z = c) = false := by simp [he]
          go_wp2
          go_round
          case rel => exact ⟨k + 1, by omega, by go_num, HS.out⟩
          case measure => simp [intOf]; omega
      · have hr := HZ.out (fun j hj => HK.out j (by omega))
        subst hr
        go_wp2
        go_ret
        exact ⟨rfl, rfl⟩

end Go.Proofs.Ytlnfjjciilieeaa
