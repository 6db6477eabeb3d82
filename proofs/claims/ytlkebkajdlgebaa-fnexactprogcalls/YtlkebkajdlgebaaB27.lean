import Derived.Test.YtlkebkajdlgebaaB16
import Derived.Maps.OwnSet
import Derived.Lib.SlKeysI
/-
  What a code calls, as a list and as a set: plain facts.
-/
namespace Go.Proofs.Ytlkebkajdlgebaa
open Go.RowKit
set_option linter.unusedVariables false
set_option linter.unusedSimpArgs false

/-- the procedures that a code calls, in its order -/
def calledL (c : List I4) : List Int := (c.filter (fun i => i.1 == 8)).map (fun i => i.2.2.1)
/-- whether a code calls a procedure -/
def calledF (c : List I4) (n : Int) : Bool := c.any fun i => i.1 == 8 && i.2.2.1 == n
/-- those of the first m procedures that a code calls, ascending -/
def callsL (c : List I4) (m : Nat) : List Int := ((List.range m).map Int.ofNat).filter (calledF c)
/-- the set of what the first k instructions call -/
def setD (c : List I4) (k : Nat) : DataW Unit := Go.Maps.setOf (.agg []) ((calledL (c.take k)).map (Lit.int .i64))

theorem calledF_mem (c : List I4) (n : Int) : calledF c n = decide (n ∈ calledL c) := by
  induction c with
  | nil => simp [calledF, calledL]
  | cons i r ih =>
    have e : calledF (i :: r) n = (i.1 == 8 && i.2.2.1 == n || calledF r n) := rfl
    rw [e, ih]
    by_cases h : i.1 = 8
    · have e2 : calledL (i :: r) = i.2.2.1 :: calledL r := by simp [calledL, h]
      rw [e2]
      by_cases h3 : i.2.2.1 = n
      · simp [h, h3]
      · have h4 : ¬ n = i.2.2.1 := fun e => h3 e.symm
        have h5 : (i.2.2.1 == n) = false := by simpa using h3
        rw [h5]
        simp [h4]
    · have e2 : calledL (i :: r) = calledL r := by simp [calledL, h]
      rw [e2]
      simp [h]
theorem take_next (c : List I4) (k : Nat) (h : k < c.length) : c.take (k + 1) = c.take k ++ [c.getD k i0] := by
  rw [List.take_add_one, List.getD_eq_getElem?_getD, List.getElem?_eq_getElem h]
  rfl
theorem setD_zero (c : List I4) : setD c 0 = .map [] := rfl
theorem setD_call (c : List I4) (k : Nat) (h : k < c.length) (hk : (c.getD k i0).1 = 8) : setD c (k + 1) = (setD c k).put (.int .i64 (c.getD k i0).2.2.1) (.agg []) := by
  unfold setD
  rw [take_next c k h]
  generalize c.getD k i0 = I at *
  have : calledL (c.take k ++ [I]) = calledL (c.take k) ++ [I.2.2.1] := by simp only [calledL, List.filter_append, List.map_append, List.filter_cons, List.filter_nil, hk, beq_self_eq_true, if_true, List.map_cons, List.map_nil]
  rw [this, List.map_append, List.map_singleton, Go.Maps.setOf_snoc]
theorem setD_other (c : List I4) (k : Nat) (h : k < c.length) (hk : (c.getD k i0).1 ≠ 8) : setD c (k + 1) = setD c k := by
  unfold setD
  rw [take_next c k h]
  generalize c.getD k i0 = I at *
  have : calledL (c.take k ++ [I]) = calledL (c.take k) := by
    have e : (I.1 == 8) = false := by simpa using hk
    simp only [calledL, List.filter_append, List.map_append, List.filter_cons, List.filter_nil, e, Bool.false_eq_true, if_false, List.map_nil, List.append_nil]
  rw [this]
theorem any_num (x : Int) : ∀ l : List Int, l.any ((fun y : Lit => y.sameKey (.int .i64 x)) ∘ Lit.int .i64) = decide (x ∈ l)
  | [] => by simp
  | a :: r => by
    rw [List.any_cons, any_num x r]
    by_cases e : a = x
    · subst e
      simp [Lit.sameKey]
    · have e' : ¬ x = a := fun h => e h.symm
      simp [Lit.sameKey, e, e']
theorem has_setD (c : List I4) (x : Int) : Go.Maps.has (setD c c.length) (.int .i64 x) = calledF c x := by
  unfold setD
  rw [Go.Maps.has_setOf _ _ _ (fun y hy => by obtain ⟨_, _, rfl⟩ := List.mem_map.1 hy; trivial), List.any_map, calledF_mem, List.take_length]
  exact any_num x _
theorem callsL_mem (c : List I4) (m : Nat) (hb : ∀ x, calledF c x = true → 0 ≤ x ∧ x < m) (x : Int) : x ∈ callsL c m ↔ calledF c x = true := by
  simp only [callsL, List.mem_filter, List.mem_map, List.mem_range]
  constructor
  · exact fun h => h.2
  · intro h
    have := hb x h
    exact ⟨⟨x.toNat, by omega, by simp; omega⟩, h⟩
theorem callsL_asc (c : List I4) (m : Nat) : (callsL c m).Pairwise (· < ·) := by
  refine List.Pairwise.filter _ ?_
  rw [List.pairwise_map]
  exact List.pairwise_lt_range.imp (fun h => by simpa using h)
/-- the keys of the set, sorted, are just what is called -/
theorem sorted_calls (c : List I4) (m : Nat) (hb : ∀ x, calledF c x = true → 0 ≤ x ∧ x < m) (ss : List Int) {w : World} {P : Program} {k : TypeId} {b n : Nat} (hk : P.underlying k = some (.int .i64)) (hown : w.ownsMap P k (unitElem (H := Unit)) b n (setD c c.length))
    (hp : ss.Perm (intKeys (setD c c.length))) : (ss.mergeSort fun x y => decide (x ≤ y)) = callsL c m := by
  have K : Go.Maps.Keyed P k := Go.Maps.int_keyed hk
  obtain ⟨es, hD, hpw, _⟩ := hown.entries K
  obtain ⟨es', hD', hko⟩ := hown.keysOf
  obtain rfl : es = es' := by rw [hD] at hD'; simpa using hD'
  have hnd : (callsL c m).Nodup := (callsL_asc c m).imp (fun h e => by omega)
  have h2 : (callsL c m).Perm (intKeys (setD c c.length)) := by
    have hmem : ∀ x, x ∈ callsL c m ↔ Go.Maps.has (setD c c.length) (.int .i64 x) = true := fun x => by rw [has_setD, callsL_mem c m hb]
    rw [hD] at hmem ⊢
    exact perm_intKeys hpw (fun p hp => by obtain ⟨v, hv⟩ := hko p hp; obtain ⟨x, _, hx, _⟩ := Maps.keyOf_i64 hk hv; exact ⟨x, hx⟩) hnd hmem
  have e1 := mergeSort_of_perm_i (hp.trans h2.symm)
  show ss.mergeSort leI = _
  rw [e1]
  exact List.mergeSort_of_pairwise ((callsL_asc c m).imp (fun h => by simp; omega))

end Go.Proofs.Ytlkebkajdlgebaa
