/-
  A region that draws its order, in a round of a loop over a function: by a condition on what has come up, one step an operation.
-/
import Derived.Test.YtbmjjmbimfdkoaaInvA
import Derived.OrdersIn
import Derived.RangeFuncCalls
import Derived.TacticsIn
namespace Go.Proofs.Ytbmjjmbimfdkoaa
open Go.RowKit
set_option linter.unusedVariables false
set_option linter.unusedSimpArgs false

section
variable {P : Program} {ops : Array Oper} {Q : Exit → Act → World → Prop} {md : Region.Mode}

theorem upon_in {o : Oper} {a : Act} {K : Act → World → Prop} {l n : Nat} {r : Result Next} (h : o.upon P a K Q r) : o.uponIn (Fence.wide.inRound l) n P a K Q r := by
  cases r with
  | ok x w' =>
    cases x <;> first
      | exact h
      | exact False.elim h
      | exact ⟨fun h => (by cases h), (callsIn_wide.2 h).inRound l⟩
      | exact ⟨fun h => (by cases h), fun c cs _ => let ⟨v, w', r, s⟩ := h c cs; ⟨v, w', r, stepsIn_wide.2 s⟩⟩
  | halt x w' => cases x <;> first | exact h | exact False.elim h

theorem wp_in {o : Oper} {a : Act} {w : World} {K : Act → World → Prop} {l n : Nat} (hnd : ∀ c, o.op ≠ Op.defer c) (h : o.wp P a w K Q) : o.wpIn (Fence.wide.inRound l) n P a w K Q := by
  refine ⟨fun _ _ => trivial, ?_⟩
  rw [Fence.inRound_round, Oper.semAt_some l _ _ hnd]
  exact upon_in h

theorem wpAnyIn_inv {F : Fence} {n : Nat} (hbk : backB md ops = true) (I : Array Bool → Act → World → Prop)
    (step : ∀ listed a w, I listed a w → ∀ (i : Nat) (o : Oper), ops[i]? = some o → listed.getD i true = false → (∀ e ∈ o.after, Region.binds md e = true → listed.getD e.on false = true) → wpOpIn F n P ops Q i (I (listed.setIfInBounds i true)) a w)
    (fin : ∀ listed a w, I listed a w → (∀ i, i < ops.size → listed.getD i true = true) → Q .normal a w) :
    ∀ (fuel : Nat) (listed : Array Bool) (a : Act) (w : World), listed.size = ops.size → (List.range ops.size).countP (fun i => !listed.getD i true) ≤ fuel → I listed a w → wpAnyIn F n P md ops Q fuel listed a w
  | 0, listed, a, w, hs, hc, hI => by
    have hall : ∀ i, i < ops.size → listed.getD i true = true := fun i hi => by
      have h0 : (List.range ops.size).countP (fun i => !listed.getD i true) = 0 := by omega
      rw [List.countP_eq_zero] at h0
      have := h0 i (List.mem_range.2 hi)
      simpa using this
    refine ⟨?_, fin _ _ _ hI hall⟩
    unfold Region.ready
    rw [List.filter_eq_nil_iff]
    intro i hi
    rw [hall i (List.mem_range.1 hi)]
    simp
  | fuel + 1, listed, a, w, hs, hc, hI => by
    refine ⟨fun hr => fin _ _ _ hI fun i hi => all_listed hbk hs hr (i + 1) i (by omega) hi, fun i hi => ?_⟩
    obtain ⟨hun, o, ho, hpre⟩ := mem_ready.1 hi
    refine wpOpIn_mono (fun a' w' h' => wpAnyIn_inv hbk I step fin fuel _ a' w' (by simpa using hs) ?_ h') (step _ _ _ hI i o ho hun hpre)
    have hi' : i < ops.size := (Array.getElem?_eq_some_iff.1 ho).1
    have hlt := cnt_lt (p := fun j => !listed.getD j true) (q := fun j => !(listed.setIfInBounds i true).getD j true) (i := i) (List.range ops.size) (List.mem_range.2 hi') (by simp only [hun]; rfl) (by
      have : i < listed.size := by omega
      simp [this]) (fun j hj => by
        by_cases hij : i = j
        · subst hij
          have : i < listed.size := by omega
          simp [this] at hj
        · simp only [getD_set_ne true hij] at hj; exact hj)
    omega

/-- in a round at the wide fence: each operation by the plain calculus -/
theorem wpIn_round_inv {l n : Nat} {id : Nat} {a : Act} {w : World} (hm : P.follows .mixedOrders = true) (hbk : backB .any ops = true) (hg : ∀ (i : Nat) (o : Oper), ops[i]? = some o → o.guard = none ∧ ∀ c, o.op ≠ Op.defer c) (I : Array Bool → Act → World → Prop)
    (start : I (Array.replicate ops.size false) a w.drew)
    (step : ∀ listed a w, I listed a w → ∀ (i : Nat) (o : Oper), ops[i]? = some o → listed.getD i true = false → (∀ e ∈ o.after, Region.binds .any e = true → listed.getD e.on false = true) → ∀ K : Act → World → Prop, (∀ a' w', I (listed.setIfInBounds i true) a' w' → K a' w') → o.wp P a w K Q)
    (fin : ∀ listed a w, I listed a w → (∀ i, i < ops.size → listed.getD i true = true) → Q .normal a w) : (Code.region id ops true).wpIn (Fence.wide.inRound l) n P Q a w :=
  wpIn_region_any hm (wpAnyIn_inv hbk I (fun listed a w hI i o ho hun hpre => by
    unfold wpOpIn
    rw [ho]
    have hw : Region.wanted o (yielded ops a.tmps) = true := by unfold Region.wanted; rw [(hg i o ho).1]
    simp only [hw, if_true]
    exact wp_in (hg i o ho).2 (step listed a w hI i o ho hun hpre _ fun _ _ q => q)) fin _ _ _ _ (by simp) (by
    have := List.countP_le_length (p := fun i => !(Array.replicate ops.size false).getD i true) (l := List.range ops.size)
    simpa using this) start)
end
end Go.Proofs.Ytbmjjmbimfdkoaa
