import Derived.Test.YtbjegekfghihkaaB15
/-
  A region that draws its order, makes no memory of its own and leaves in each slot a value of which something is known whatever the order.
-/
namespace Go.Proofs.Ytbjegekfghihkaa
open Go.RowKit
set_option linter.unusedVariables false
set_option linter.unusedSimpArgs false

section
variable {P : Program} {ops : Array Oper} {Q : Exit → Act → World → Prop}

theorem mixL_congr {V V' : Nat → Value} {listed : Array Bool} : ∀ (l : List Nat) (a : Act), (∀ j ∈ l, listed.getD j false = true → V j = V' j) → mixL ops V listed l a = mixL ops V' listed l a
  | [], a, _ => rfl
  | j :: l, a, h => by
    show mixL ops V listed l (putIf ops V listed a j) = mixL ops V' listed l (putIf ops V' listed a j)
    have e : putIf ops V listed a j = putIf ops V' listed a j := by
      unfold putIf
      split
      · rw [h j (by simp) (by assumption)]
      · rfl
    rw [e]
    exact mixL_congr l _ fun k hk => h k (List.mem_cons_of_mem _ hk)

/-- operation o, its operands being read by ρ, gives a value of which T holds -/
def GivesP (P : Program) (ρ : Operand → Value) (o : Oper) (T : Value → World → Prop) (x : World) : Prop :=
  (∃ v x', (execOp ρ o).run P x = .ok (.value v) x' ∧ T v x' ∧ Below x.heap.size x x') ∨ ∃ f args, (execOp ρ o).run P x = .ok (.enter f args) x ∧ Calls P f args x fun e w' => ∃ v, e = .returned v ∧ T v w' ∧ Below x.heap.size x w'
theorem GivesP.val {ρ : Operand → Value} {o : Oper} {T : Value → World → Prop} {x : World} (v : Value) (hT : T v x) (h : (execOp ρ o).run P x = .ok (.value v) x) : GivesP P ρ o T x := .inl ⟨v, x, h, hT, Below.refl _ _⟩
theorem GivesP.made {ρ : Operand → Value} {o : Oper} {T : Value → World → Prop} {x : World} (v : Value) (x' : World) (hb : Below x.heap.size x x') (hT : T v x') (h : (execOp ρ o).run P x = .ok (.value v) x') : GivesP P ρ o T x := .inl ⟨v, x', h, hT, hb⟩
theorem GivesP.call {ρ : Operand → Value} {o : Oper} {T : Value → World → Prop} {x : World} {f : FuncId} {args : Array Value} (hc : Calls P f args x fun e w' => ∃ v, e = .returned v ∧ T v w' ∧ Below x.heap.size x w') (h : (execOp ρ o).run P x = .ok (.enter f args) x) : GivesP P ρ o T x := .inr ⟨f, args, h, hc⟩

theorem wp_region_preds {id : Nat} {a0 : Act} {w : World} (hm : P.follows .mixedOrders = true) (hbk : backB .any ops = true) (hd : distB ops = true) (hfit : fitB ops a0.tmps.size = true) (T : Nat → Value → World → Prop) (hT : ∀ i v x y, T i v x → Below x.heap.size x y → T i v y) (w0 : World) (hw : Below w0.heap.size w0 w.drew)
    (step : ∀ (i : Nat) (o : Oper), ops[i]? = some o → ∀ (ρ : Operand → Value) (y : Nat → Option Bool) (x : World), Below w0.heap.size w0 x →
      (∀ e ∈ o.after, Region.binds .any e = true → ∀ d, dstOf ops e.on = some d → T e.on (ρ (.tmp d)) x ∧ y e.on = boolOf (ρ (.tmp d))) →
      (∀ t, isDst ops t = false → ρ t = a0.eval t) →
      (Region.wanted o y = true ∧ GivesP P ρ o (T i) x) ∨ (Region.wanted o y = false ∧ T i undef x))
    (A : (Nat → Value) → Act) (hA : ∀ V, mix ops V a0 (Array.replicate ops.size true) = A V)
    (fin : ∀ (V : Nat → Value) x, Below w0.heap.size w0 x → (∀ j, j < ops.size → T j (V j) x) → Q .normal (A V) x) : (Code.region id ops true).wp P Q a0 w := by
  refine wp_region_inv hm hbk (fun listed a x => ∃ V, listed.size = ops.size ∧ a = mix ops V a0 listed ∧ Below w0.heap.size w0 x ∧ ∀ j, j < ops.size → listed.getD j false = true → T j (V j) x) ⟨fun _ => undef, by simp, ?_, hw, ?_⟩ ?_ ?_
  · have : ∀ (l : List Nat) (a : Act), mixL ops (fun _ => undef) (Array.replicate ops.size false) l a = a := by
      intro l
      induction l with
      | nil => intro a; rfl
      | cons j l ih =>
        intro a
        show mixL ops (fun _ => undef) (Array.replicate ops.size false) l (putIf ops (fun _ => undef) (Array.replicate ops.size false) a j) = a
        rw [ih]
        unfold putIf
        rw [if_neg]
        simp [Array.getElem?_replicate]
        split <;> simp
    exact (this _ _).symm
  · intro j hj h
    simp [Array.getElem?_replicate, hj] at h
  · rintro listed a x ⟨V, hs, rfl, hB, hV⟩ i o ho hun hpre
    have hi : i < ops.size := (Array.getElem?_eq_some_iff.1 ho).1
    have hf : listed.getD i false = false := by
      have : i < listed.size := by omega
      simp [this] at hun ⊢; exact hun
    have hdo : dstOf ops i = o.dst := by unfold dstOf; rw [ho]; rfl
    have hset : ∀ v, mix ops (fun k => if k = i then v else V k) a0 (listed.setIfInBounds i true) = (mix ops V a0 listed).put o.dst v := fun v => by
      have h1 := mix_set (V := fun k => if k = i then v else V k) (a0 := a0) hd hs hi hf
      rw [hdo] at h1
      rw [h1]
      simp only [if_true]
      congr 1
      exact mixL_congr _ _ fun j _ hj => by
        have : j ≠ i := fun e => by rw [e, hf] at hj; cases hj
        simp [this]
    have hnew : ∀ v z, T i v z → Below x.heap.size x z → ∀ j, j < ops.size → (listed.setIfInBounds i true).getD j false = true → T j (if j = i then v else V j) z := fun v z hv hb j hj hl => by
      by_cases hji : j = i
      · subst hji; simpa using hv
      · rw [if_neg hji]
        have : listed.getD j false = true := by
          rw [getD_set_ne false (Ne.symm hji)] at hl
          exact hl
        exact hT j _ _ _ (hV j hj this) hb
    have hstep := step i o ho (mix ops V a0 listed).eval (yielded ops (mix ops V a0 listed).tmps) x hB
      (fun e he hb d hdd => by
        have hlt := back_spec hbk ho e he hb
        have h1 := mix_at (V := V) (a0 := a0) hd hfit hs (by omega) (hpre e he hb) hdd
        have e1 : (mix ops V a0 listed).eval (.tmp d) = V e.on := by simp [Act.eval, h1]
        rw [e1]
        refine ⟨hV e.on (by omega) (hpre e he hb), ?_⟩
        unfold yielded
        have : ((ops[e.on]?).bind (·.dst)).bind ((mix ops V a0 listed).tmps[·]?) = some (V e.on) := by
          show (dstOf ops e.on).bind _ = _
          rw [hdd]; exact h1
        rw [this]
        unfold boolOf
        cases V e.on <;> rfl)
      (fun t ht => mixL_out _ _ fun j hj d hdd => by
        intro he
        subst he
        unfold isDst at ht
        rw [List.any_eq_false] at ht
        have := ht j hj
        simp [hdd] at this)
    unfold wpOp
    rw [ho]
    rcases hstep with ⟨hw1, hg⟩ | ⟨hw0, hv⟩
    · simp only [hw1, if_true]
      refine .inl ?_
      unfold Oper.wp
      rcases hg with ⟨v, x', hg, hv, hb⟩ | ⟨f, args, hg, hc⟩
      · rw [hg, Oper.upon_value]
        exact ⟨_, by simpa using hs, (hset v).symm, hB.trans (hb.mono hB.size), hnew v x' hv hb⟩
      · rw [hg, Oper.upon_enter]
        refine hc.mono ?_
        rintro e w' ⟨v, rfl, hv, hb⟩
        exact ⟨_, by simpa using hs, (hset v).symm, hB.trans (hb.mono hB.size), hnew v w' hv hb⟩
    · simp only [hw0]
      exact ⟨_, by simpa using hs, (hset undef).symm, hB, hnew undef x hv (Below.refl _ _)⟩
  · rintro listed a x ⟨V, hs, rfl, hB, hV⟩ hall
    have : listed = Array.replicate ops.size true := by
      apply Array.ext
      · simpa using hs
      · intro k h1 h2
        have := hall k (by omega)
        simp [h1] at this
        simp [this]
    rw [this, hA V]
    exact fin V x hB fun j hj => hV j hj (by rw [this]; simp [Array.getElem?_replicate, hj])
end
end Go.Proofs.Ytbjegekfghihkaa

/-
  A region that draws its order, as in InvP, whose last operation stores and has no slot.
-/
namespace Go.Proofs.Ytbjegekfghihkaa
open Go.RowKit
set_option linter.unusedVariables false
set_option linter.unusedSimpArgs false

section
variable {P : Program} {ops : Array Oper} {Q : Exit → Act → World → Prop}

def behindB (ops : Array Oper) (n : Nat) : Bool := match ops[n]? with
  | none => false
  | some o => o.guard.isNone && o.dst.isNone && (List.range n).all fun j => o.after.any fun e => Region.binds .any e && (e.on == j)

theorem wp_region_store {id : Nat} {a0 : Act} {w : World} (hm : P.follows .mixedOrders = true) (hbk : backB .any ops = true) (hd : distB ops = true) (hfit : fitB ops a0.tmps.size = true) (n : Nat) (hn : ops.size = n + 1) (hbeh : behindB ops n = true) (olast : Oper) (hol : ops[n]? = some olast)
    (T : Nat → Value → World → Prop) (hT : ∀ i v x y, T i v x → Below x.heap.size x y → T i v y) (w0 : World) (hw : Below w0.heap.size w0 w.drew)
    (step : ∀ (i : Nat) (o : Oper), i < n → ops[i]? = some o → ∀ (ρ : Operand → Value) (y : Nat → Option Bool) (x : World), Below w0.heap.size w0 x →
      (∀ e ∈ o.after, Region.binds .any e = true → ∀ d, dstOf ops e.on = some d → T e.on (ρ (.tmp d)) x ∧ y e.on = boolOf (ρ (.tmp d))) →
      (∀ t, isDst ops t = false → ρ t = a0.eval t) →
      (Region.wanted o y = true ∧ GivesP P ρ o (T i) x) ∨ (Region.wanted o y = false ∧ T i undef x))
    (A : (Nat → Value) → Act) (hA : ∀ V, mix ops V a0 (Array.replicate ops.size true) = A V)
    (last : ∀ (V : Nat → Value) x, Below w0.heap.size w0 x → (∀ j, j < n → T j (V j) x) → ∃ x', (execOp (A V).eval olast).run P x = .ok .skip x' ∧ Q .normal (A V) x') : (Code.region id ops true).wp P Q a0 w := by
  have hb3 : olast.guard = none ∧ olast.dst = none ∧ ∀ j, j < n → ∃ e ∈ olast.after, Region.binds .any e = true ∧ e.on = j := by
    unfold behindB at hbeh
    rw [hol] at hbeh
    simp only [Bool.and_eq_true, Option.isNone_iff_eq_none, List.all_eq_true, Array.any_eq_true'] at hbeh
    refine ⟨hbeh.1.1, hbeh.1.2, fun j hj => ?_⟩
    obtain ⟨e, he, hb, h2⟩ := hbeh.2 j (List.mem_range.2 hj)
    exact ⟨e, he, hb, by simpa using h2⟩
  have hnn : dstOf ops n = none := by unfold dstOf; rw [hol]; exact hb3.2.1
  refine wp_region_inv hm hbk (fun listed a x => listed.size = ops.size ∧ ((∃ V, listed.getD n true = false ∧ a = mix ops V a0 listed ∧ Below w0.heap.size w0 x ∧ ∀ j, j < n → listed.getD j false = true → T j (V j) x) ∨ (listed = Array.replicate ops.size true ∧ Q .normal a x))) ⟨by simp, .inl ⟨fun _ => undef, ?_, ?_, hw, ?_⟩⟩ ?_ ?_
  · simp [hn]
  · have : ∀ (l : List Nat) (a : Act), mixL ops (fun _ => undef) (Array.replicate ops.size false) l a = a := by
      intro l
      induction l with
      | nil => intro a; rfl
      | cons j l ih =>
        intro a
        show mixL ops (fun _ => undef) (Array.replicate ops.size false) l (putIf ops (fun _ => undef) (Array.replicate ops.size false) a j) = a
        rw [ih]
        unfold putIf
        rw [if_neg]
        simp [Array.getElem?_replicate]
        split <;> simp
    exact (this _ _).symm
  · intro j hj h
    have : j < ops.size := by omega
    simp [Array.getElem?_replicate, this] at h
  · rintro listed a x ⟨hs, hI⟩ i o ho hun hpre
    have hi : i < ops.size := (Array.getElem?_eq_some_iff.1 ho).1
    rcases hI with ⟨V, hln, rfl, hB, hV⟩ | ⟨rfl, _⟩
    · have hf : listed.getD i false = false := by
        have : i < listed.size := by omega
        simp [this] at hun ⊢; exact hun
      have hdo : dstOf ops i = o.dst := by unfold dstOf; rw [ho]; rfl
      by_cases hin : i < n
      · have hset : ∀ v, mix ops (fun k => if k = i then v else V k) a0 (listed.setIfInBounds i true) = (mix ops V a0 listed).put o.dst v := fun v => by
          have h1 := mix_set (V := fun k => if k = i then v else V k) (a0 := a0) hd hs hi hf
          rw [hdo] at h1
          rw [h1]
          simp only [if_true]
          congr 1
          exact mixL_congr _ _ fun j _ hj => by
            have : j ≠ i := fun e => by rw [e, hf] at hj; cases hj
            simp [this]
        have hnew : ∀ v z, T i v z → Below x.heap.size x z → ∀ j, j < n → (listed.setIfInBounds i true).getD j false = true → T j (if j = i then v else V j) z := fun v z hv hb j hj hl => by
          by_cases hji : j = i
          · subst hji; simpa using hv
          · rw [if_neg hji]
            have : listed.getD j false = true := by
              rw [getD_set_ne false (Ne.symm hji)] at hl
              exact hl
            exact hT j _ _ _ (hV j hj this) hb
        have hkn : (listed.setIfInBounds i true).getD n true = false := by
          have : i ≠ n := by omega
          rw [getD_set_ne true this]
          exact hln
        have hstep := step i o hin ho (mix ops V a0 listed).eval (yielded ops (mix ops V a0 listed).tmps) x hB
          (fun e he hb d hdd => by
            have hlt := back_spec hbk ho e he hb
            have h1 := mix_at (V := V) (a0 := a0) hd hfit hs (by omega) (hpre e he hb) hdd
            have e1 : (mix ops V a0 listed).eval (.tmp d) = V e.on := by simp [Act.eval, h1]
            rw [e1]
            refine ⟨hV e.on (by omega) (hpre e he hb), ?_⟩
            unfold yielded
            have : ((ops[e.on]?).bind (·.dst)).bind ((mix ops V a0 listed).tmps[·]?) = some (V e.on) := by
              show (dstOf ops e.on).bind _ = _
              rw [hdd]; exact h1
            rw [this]
            unfold boolOf
            cases V e.on <;> rfl)
          (fun t ht => mixL_out _ _ fun j hj d hdd => by
            intro he
            subst he
            unfold isDst at ht
            rw [List.any_eq_false] at ht
            have := ht j hj
            simp [hdd] at this)
        unfold wpOp
        rw [ho]
        rcases hstep with ⟨hw1, hg⟩ | ⟨hw0, hv⟩
        · simp only [hw1, if_true]
          refine .inl ?_
          unfold Oper.wp
          rcases hg with ⟨v, x', hg, hv, hb⟩ | ⟨f, args, hg, hc⟩
          · rw [hg, Oper.upon_value]
            exact ⟨by simpa using hs, .inl ⟨_, hkn, (hset v).symm, hB.trans (hb.mono hB.size), hnew v x' hv hb⟩⟩
          · rw [hg, Oper.upon_enter]
            refine hc.mono ?_
            rintro e w' ⟨v, rfl, hv, hb⟩
            exact ⟨by simpa using hs, .inl ⟨_, hkn, (hset v).symm, hB.trans (hb.mono hB.size), hnew v w' hv hb⟩⟩
        · simp only [hw0]
          exact ⟨by simpa using hs, .inl ⟨_, hkn, (hset undef).symm, hB, hnew undef x hv (Below.refl _ _)⟩⟩
      · obtain rfl : i = n := by omega
        obtain rfl : o = olast := by rw [hol] at ho; exact (Option.some.inj ho).symm
        have hall : ∀ j, j < i → listed.getD j false = true := fun j hj => by
          obtain ⟨e, he, hb, rfl⟩ := hb3.2.2 j hj
          exact hpre e he hb
        have hnow : listed.setIfInBounds i true = Array.replicate ops.size true := by
          apply Array.ext
          · simpa using hs
          · intro k h1 h2
            by_cases hk : i = k
            · subst hk; simp
            · have hks : k < listed.size := by simpa using h1
              have hkk : k < i := by omega
              have hal := hall k hkk
              simp [hks] at hal
              rw [Array.getElem_setIfInBounds_ne _ hk]
              · simp [hal]
              · exact hks
        have hmix : mix ops V a0 listed = A V := by
          rw [← hA V, ← hnow, mix_set hd hs hi hf, hnn]
          rfl
        obtain ⟨x', hx, hq⟩ := last V x hB fun j hj => hV j hj (hall j hj)
        rw [hmix]
        refine wpOp_of ho hb3.1 fun K hK => ?_
        unfold Oper.wp
        rw [hx, Oper.upon_skip, hb3.2.1]
        exact hK _ _ ⟨by simpa using hs, .inr ⟨hnow, hq⟩⟩
    · exfalso
      simp [hi] at hun
  · rintro listed a x ⟨hs, hI⟩ hall
    rcases hI with ⟨V, hln, _⟩ | ⟨_, hq⟩
    · have := hall n (by omega)
      rw [hln] at this
      cases this
    · exact hq
end
end Go.Proofs.Ytbjegekfghihkaa
