/-
  A region that draws its order, by a condition on what has come up: one step an operation, whatever the order.
-/
import Derived.Test.YtepfjcdaamgkdaaDoI
import Derived.Orders
namespace Go.Proofs.Ytepfjcdaamgkdaa
open Go.RowKit
set_option linter.unusedVariables false
set_option linter.unusedSimpArgs false

theorem cnt_lt {p q : Nat → Bool} {i : Nat} : ∀ (l : List Nat), i ∈ l → p i = true → q i = false → (∀ j, q j = true → p j = true) → l.countP q < l.countP p
  | [], h, _, _, _ => by cases h
  | x :: l, h, hp, hq, hle => by
    have hmono : l.countP q ≤ l.countP p := List.countP_mono_left fun j _ hj => hle j hj
    rcases List.mem_cons.1 h with rfl | h'
    · rw [List.countP_cons, List.countP_cons, hp, hq]; simp; omega
    · have := cnt_lt l h' hp hq hle
      rw [List.countP_cons, List.countP_cons]
      have hx := hle x
      cases hqx : q x
      · simp; omega
      · rw [hx hqx]; simp; omega

section
variable {P : Program} {ops : Array Oper} {Q : Exit → Act → World → Prop} {md : Region.Mode}

def backB (md : Region.Mode) (ops : Array Oper) : Bool :=
  (List.range ops.size).all fun i => ((ops[i]?).map (·.after.all fun e => !Region.binds md e || decide (e.on < i))).getD true

theorem back_spec (h : backB md ops = true) {i : Nat} {o : Oper} (ho : ops[i]? = some o) (e : _) (he : e ∈ o.after) (hb : Region.binds md e = true) : e.on < i := by
  unfold backB at h
  rw [List.all_eq_true] at h
  have hi : i < ops.size := (Array.getElem?_eq_some_iff.1 ho).1
  have h1 := h i (List.mem_range.2 hi)
  rw [ho] at h1
  simp only [Option.map_some, Option.getD_some, Array.all_eq_true_iff_forall_mem] at h1
  have h2 := h1 e he
  simpa [hb] using h2

theorem all_listed (h : backB md ops = true) {listed : Array Bool} (hs : listed.size = ops.size) (hr : Region.ready md ops listed = []) :
    ∀ n i, i < n → i < ops.size → listed.getD i true = true
  | 0, _, h0, _ => by omega
  | n + 1, i, hin, hi => by
    cases hl : listed.getD i true
    · exfalso
      have : i ∈ Region.ready md ops listed := by
        rw [mem_ready]
        refine ⟨hl, ops[i], Array.getElem?_eq_getElem hi, fun e he hb => ?_⟩
        have hlt := back_spec h (Array.getElem?_eq_getElem hi) e he hb
        have h2 := all_listed h hs hr n e.on (by omega) (by omega)
        have h3 : e.on < listed.size := by omega
        simp [h3] at h2 ⊢
        exact h2
      rw [hr] at this
      cases this
    · rfl

theorem wpAny_inv (hbk : backB md ops = true) (I : Array Bool → Act → World → Prop)
    (step : ∀ listed a w, I listed a w → ∀ i o, ops[i]? = some o → listed.getD i true = false → (∀ e ∈ o.after, Region.binds md e = true → listed.getD e.on false = true) → wpOp P ops Q i (I (listed.setIfInBounds i true)) a w)
    (fin : ∀ listed a w, I listed a w → (∀ i, i < ops.size → listed.getD i true = true) → Q .normal a w) :
    ∀ (fuel : Nat) (listed : Array Bool) (a : Act) (w : World), listed.size = ops.size → (List.range ops.size).countP (fun i => !listed.getD i true) ≤ fuel → I listed a w → wpAny P md ops Q fuel listed a w
  | 0, listed, a, w, hs, hc, hI => by
    have hall : ∀ i, i < ops.size → listed.getD i true = true := fun i hi => by
      have h0 : (List.range ops.size).countP (fun i => !listed.getD i true) = 0 := by omega
      rw [List.countP_eq_zero] at h0
      have := h0 i (List.mem_range.2 hi)
      simpa using this
    refine ⟨?_, fin _ _ _ hI hall⟩
    unfold Region.ready
    rw [List.filter_eq_nil_iff]
    intro i hi
    rw [hall i (List.mem_range.1 hi)]
    simp
  | fuel + 1, listed, a, w, hs, hc, hI => by
    refine ⟨fun hr => fin _ _ _ hI fun i hi => all_listed hbk hs hr (i + 1) i (by omega) hi, fun i hi => ?_⟩
    obtain ⟨hun, o, ho, hpre⟩ := mem_ready.1 hi
    refine wpOp_mono (fun a' w' h' => wpAny_inv hbk I step fin fuel _ a' w' (by simpa using hs) ?_ h') (step _ _ _ hI i o ho hun hpre)
    have hi' : i < ops.size := (Array.getElem?_eq_some_iff.1 ho).1
    have hlt := cnt_lt (p := fun j => !listed.getD j true) (q := fun j => !(listed.setIfInBounds i true).getD j true) (i := i) (List.range ops.size) (List.mem_range.2 hi') (by simp only [hun]; rfl) (by
      have : i < listed.size := by omega
      simp [this]) (fun j hj => by
        by_cases hij : i = j
        · subst hij
          have : i < listed.size := by omega
          simp [this] at hj
        · simp only [getD_set_ne true hij] at hj; exact hj)
    omega

theorem wp_region_inv {id : Nat} {a : Act} {w : World} (hm : P.follows .mixedOrders = true) (hbk : backB .any ops = true) (I : Array Bool → Act → World → Prop)
    (start : I (Array.replicate ops.size false) a w.drew)
    (step : ∀ listed a w, I listed a w → ∀ i o, ops[i]? = some o → listed.getD i true = false → (∀ e ∈ o.after, Region.binds .any e = true → listed.getD e.on false = true) → wpOp P ops Q i (I (listed.setIfInBounds i true)) a w)
    (fin : ∀ listed a w, I listed a w → (∀ i, i < ops.size → listed.getD i true = true) → Q .normal a w) : (Code.region id ops true).wp P Q a w :=
  wp_region_any hm (wpAny_inv hbk I step fin _ _ _ _ (by simp) (by
    have := List.countP_le_length (p := fun i => !(Array.replicate ops.size false).getD i true) (l := List.range ops.size)
    simpa using this) start)

theorem wpOp_of {i : Nat} {o : Oper} {a : Act} {w : World} {J : Act → World → Prop} (ho : ops[i]? = some o) (hg : o.guard = none)
    (h : ∀ K : Act → World → Prop, (∀ a' w', J a' w' → K a' w') → o.wp P a w K Q) : wpOp P ops Q i J a w := by
  unfold wpOp
  rw [ho]
  have hw : Region.wanted o (yielded ops a.tmps) = true := by unfold Region.wanted; rw [hg]
  simp only [hw, if_true]
  exact .inl (h J fun _ _ q => q)
end

/-- A variable that a region makes and fills: whether it is made, whether it is filled, its slot, what it is filled with. -/
structure PF (w0 x : World) (b bs : Bool) (s : Value) (V : Sp) : Prop where
  ord : bs = true → b = true
  at_ : b = true → ∃ (m : Nat) (a : Bool) (l u : Int), s = .pointer (some ⟨m, 0, none⟩) ∧ w0.heap.size ≤ m ∧ Sp3 x m a l u ∧ (bs = true → (a, l, u) = V)

theorem PF.later {w0 x y : World} {b bs : Bool} {s : Value} {V : Sp} (h : PF w0 x b bs s V) (hb : Below x.heap.size x y) : PF w0 y b bs s V :=
  ⟨h.ord, fun q => by obtain ⟨m, a, l, u, e, h1, h2, h3⟩ := h.at_ q; exact ⟨m, a, l, u, e, h1, h2.later hb, h3⟩⟩
theorem PF.non {w0 x : World} {s : Value} {V : Sp} : PF w0 x false false s V := ⟨id, fun h => by cases h⟩
theorem sp3_new (x : World) (a : Bool) (l u : Int) (t : _) : Sp3 (x.alloc (.cells #[.bool a, .int .i64 l, .int .i64 u] t)) x.heap.size a l u :=
  ⟨by simp, by simp [go_sem], by simp [go_sem], by simp [go_sem], by simp [go_sem], by simp [go_sem], by simp [go_sem]⟩
theorem PF.made {w0 x : World} {bs : Bool} {s : Value} {V : Sp} {t : _} (h : PF w0 x false bs s V) (hb : Below w0.heap.size w0 x) (a : Bool) (l u : Int) :
    PF w0 (x.alloc (.cells #[.bool a, .int .i64 l, .int .i64 u] t)) true bs (.pointer (some ⟨x.heap.size, 0, none⟩)) V :=
  ⟨fun _ => rfl, fun _ => ⟨_, a, l, u, rfl, hb.size, sp3_new x a l u t, fun q => by have := h.ord q; cases this⟩⟩
theorem PF.lt {w0 x : World} {b bs : Bool} {s : Value} {V : Sp} {m : Nat} (h : PF w0 x b bs s V) (q : b = true) (e : s = .pointer (some ⟨m, 0, none⟩)) : m < x.heap.size := by
  obtain ⟨m', a, l, u, e', _, h2, _⟩ := h.at_ q
  rw [e] at e'; injection e' with e'; injection e' with e'; injection e' with e'; rw [e']; exact h2.lt
/-- two pointers that the region has made are not the same -/
def Apart2 (b c : Bool) (s t : Value) : Prop := b = true → c = true → ∀ m : Nat, s = .pointer (some ⟨m, 0, none⟩) → t = .pointer (some ⟨m, 0, none⟩) → False
theorem Apart2.fst {w0 x : World} {c cs : Bool} {t : Value} {V : Sp} (h : PF w0 x c cs t V) : Apart2 true c (.pointer (some ⟨x.heap.size, 0, none⟩)) t := by
  intro _ hc m e1 e2
  have := h.lt hc e2
  injection e1 with e1; injection e1 with e1; injection e1 with e1
  omega
theorem Apart2.snd {w0 x : World} {c cs : Bool} {t : Value} {V : Sp} (h : PF w0 x c cs t V) : Apart2 c true t (.pointer (some ⟨x.heap.size, 0, none⟩)) := by
  intro hc _ m e1 e2
  have := h.lt hc e1
  injection e2 with e2; injection e2 with e2; injection e2 with e2
  omega
theorem PF.set {w0 x : World} {m : Nat} {a b : Bool} {l u k v : Int} (hw : w0.heap.size ≤ m) (h : Sp3 x m a l u) :
    PF w0 (((x.setCell ⟨m, 0, none⟩ (.bool b)).setCell ⟨m, 1, none⟩ (.int .i64 k)).setCell ⟨m, 2, none⟩ (.int .i64 v)) true true (.pointer (some ⟨m, 0, none⟩)) (b, k, v) :=
  ⟨fun _ => rfl, fun _ => ⟨m, b, k, v, rfl, hw, h.set, fun _ => rfl⟩⟩
theorem PF.off {w0 x : World} {m : Nat} {b : Bool} {k v : Int} {c cs : Bool} {t : Value} {V : Sp} (h : PF w0 x c cs t V) (ha : c = true → t = .pointer (some ⟨m, 0, none⟩) → False) :
    PF w0 (((x.setCell ⟨m, 0, none⟩ (.bool b)).setCell ⟨m, 1, none⟩ (.int .i64 k)).setCell ⟨m, 2, none⟩ (.int .i64 v)) c cs t V :=
  ⟨h.ord, fun q => by
    obtain ⟨m', a, l, u, e, h1, h2, h3⟩ := h.at_ q
    have hne : m' ≠ m := fun hh => ha q (by rw [e, hh])
    exact ⟨m', a, l, u, e, h1, ((h2.off hne).off hne).off hne, h3⟩⟩
theorem below_set3 {w0 x : World} {m : Nat} {v0 v1 v2 : Value} (h : Below w0.heap.size w0 x) (hm : w0.heap.size ≤ m) : Below w0.heap.size w0 (((x.setCell ⟨m, 0, none⟩ v0).setCell ⟨m, 1, none⟩ v1).setCell ⟨m, 2, none⟩ v2) :=
  ((h.setCell (p := ⟨m, 0, none⟩) hm _).setCell (p := ⟨m, 1, none⟩) hm _).setCell (p := ⟨m, 2, none⟩) hm _
end Go.Proofs.Ytepfjcdaamgkdaa
