import Derived.Test.YtbjegekfghihkaaB17
import Derived.Test.YtbjegekfghihkaaB21
import Derived.Test.YtbjegekfghihkaaB24
import Derived.Test.YtbjegekfghihkaaB25
import Derived.Maps.AppendAt
/-
  A region that draws its order, as in InvP, whose last two operations come behind all others: one that may do anything (an append onto a row that stands), and the assignment of what it gives.
-/
namespace Go.Proofs.Ytbjegekfghihkaa
open Go.RowKit
set_option linter.unusedVariables false
set_option linter.unusedSimpArgs false

section
variable {P : Program} {ops : Array Oper} {Q : Exit → Act → World → Prop}

def tailB (ops : Array Oper) (n : Nat) : Bool := match ops[n]?, ops[n + 1]? with
  | some o, some p => o.guard.isNone && p.guard.isNone && ((List.range n).all fun j => (List.range (n + 1)).any fun i => decide (j < i) && (match ops[i]? with | some q => q.after.any fun e => Region.binds .any e && (e.on == j) | none => false)) && (p.after.any fun e => Region.binds .any e && (e.on == n))
  | _, _ => false
def isDstN (ops : Array Oper) (n : Nat) (t : Operand) : Bool := (List.range n).any fun i => match dstOf ops i with | some d => (match t with | .tmp k => k == d | _ => false) | none => false

theorem mixL_outL {V : Nat → Value} {listed : Array Bool} {t : Operand} : ∀ (l : List Nat) (a : Act), (∀ j ∈ l, listed.getD j false = true → ∀ d, dstOf ops j = some d → t ≠ .tmp d) → (mixL ops V listed l a).eval t = a.eval t
  | [], a, _ => rfl
  | j :: l, a, h => by
    show (mixL ops V listed l (putIf ops V listed a j)).eval t = a.eval t
    rw [mixL_outL l _ fun k hk => h k (List.mem_cons_of_mem _ hk)]
    unfold putIf
    split
    · rename_i hl
      have := mixL_out (ops := ops) (V := V) (listed := listed) (t := t) [j] a (fun k hk d hd => by
        have hkj : k = j := by simpa using hk
        subst hkj
        exact h k (by simp) hl d hd)
      simpa [mixL, putIf, hl] using this
    · rfl

theorem wp_region_tail {id : Nat} {a0 : Act} {w : World} (hm : P.follows .mixedOrders = true) (hbk : backB .any ops = true) (hd : distB ops = true) (hfit : fitB ops a0.tmps.size = true) (n : Nat) (hn : ops.size = n + 2) (hbeh : tailB ops n = true) (o1 o2 : Oper) (ho1 : ops[n]? = some o1) (ho2 : ops[n + 1]? = some o2) (d1 : Tmp) (hd1 : o1.dst = some d1)
    (T : Nat → Value → World → Prop) (hT : ∀ i v x y, T i v x → Below x.heap.size x y → T i v y) (w0 : World) (hw : Below w0.heap.size w0 w.drew)
    (step : ∀ (i : Nat) (o : Oper), i < n → ops[i]? = some o → ∀ (ρ : Operand → Value) (y : Nat → Option Bool) (x : World), Below w0.heap.size w0 x →
      (∀ e ∈ o.after, Region.binds .any e = true → ∀ d, dstOf ops e.on = some d → T e.on (ρ (.tmp d)) x ∧ y e.on = boolOf (ρ (.tmp d))) →
      (∀ t, isDstN ops n t = false → ρ t = a0.eval t) →
      (Region.wanted o y = true ∧ GivesP P ρ o (T i) x) ∨ (Region.wanted o y = false ∧ T i undef x))
    (asg : ∀ (ρ : Operand → Value) (x : World) (v : Value), ρ (.tmp d1) = v → (execOp ρ o2).run P x = .ok (.value v) x)
    (A : (Nat → Value) → Act) (hA : ∀ V, mix ops V a0 (Array.replicate ops.size true) = A V)
    (last : ∀ (V : Nat → Value) (ρ : Operand → Value) x, Below w0.heap.size w0 x → (∀ j, j < n → T j (V j) x) → (∀ j, j < n → ∀ d, dstOf ops j = some d → ρ (.tmp d) = V j) → (∀ t, isDstN ops n t = false → ρ t = a0.eval t) →
      ∃ v x', (execOp ρ o1).run P x = .ok (.value v) x' ∧ Q .normal (A (fun k => if k < n then V k else v)) x') : (Code.region id ops true).wp P Q a0 w := by
  have hb3 : o1.guard = none ∧ o2.guard = none ∧ (∀ j, j < n → ∃ i q, j < i ∧ i ≤ n ∧ ops[i]? = some q ∧ ∃ e ∈ q.after, Region.binds .any e = true ∧ e.on = j) ∧ ∃ e ∈ o2.after, Region.binds .any e = true ∧ e.on = n := by
    unfold tailB at hbeh
    rw [ho1, ho2] at hbeh
    simp only [Bool.and_eq_true, Option.isNone_iff_eq_none, List.all_eq_true, List.any_eq_true, Array.any_eq_true'] at hbeh
    refine ⟨hbeh.1.1.1, hbeh.1.1.2, fun j hj => ?_, ?_⟩
    · obtain ⟨i, hi, hji, hq⟩ := hbeh.1.2 j (List.mem_range.2 hj)
      have hi2 := List.mem_range.1 hi
      cases hqi : ops[i]? with
      | none => rw [hqi] at hq; cases hq
      | some q =>
        rw [hqi] at hq
        simp only [Array.any_eq_true', Bool.and_eq_true] at hq
        obtain ⟨e, he, hb, h2⟩ := hq
        exact ⟨i, q, by simpa using hji, by omega, hqi, e, he, hb, by simpa using h2⟩
    · obtain ⟨e, he, hb, h2⟩ := hbeh.2
      exact ⟨e, he, hb, by simpa using h2⟩
  have hdn : dstOf ops n = some d1 := by unfold dstOf; rw [ho1]; exact hd1
  refine wp_region_inv hm hbk (fun listed a x => listed.size = ops.size ∧ ((∃ V : Nat → Value, (∀ i o, ops[i]? = some o → listed.getD i false = true → ∀ e ∈ o.after, Region.binds .any e = true → listed.getD e.on false = true) ∧ listed.getD n false = false ∧ listed.getD (n + 1) false = false ∧ a = mix ops V a0 listed ∧ Below w0.heap.size w0 x ∧ ∀ j, j < n → listed.getD j false = true → T j (V j) x) ∨ (∃ (V : Nat → Value) (v : Value), (∀ j, j < n + 1 → listed.getD j false = true) ∧ listed.getD (n + 1) false = false ∧ a = mix ops (fun k => if k < n then V k else v) a0 listed ∧ Q .normal (A (fun k => if k < n then V k else v)) x) ∨ (listed = Array.replicate ops.size true ∧ Q .normal a x))) ⟨by simp, .inl ⟨fun _ => undef, ?_, ?_, ?_, ?_, hw, ?_⟩⟩ ?_ ?_
  · intro i o ho hl
    have : i < ops.size := (Array.getElem?_eq_some_iff.1 ho).1
    simp [Array.getElem?_replicate, this] at hl
  · simp [Array.getElem?_replicate]; split <;> simp
  · simp [Array.getElem?_replicate]; split <;> simp
  · have : ∀ (l : List Nat) (a : Act), mixL ops (fun _ => undef) (Array.replicate ops.size false) l a = a := by
      intro l
      induction l with
      | nil => intro a; rfl
      | cons j l ih =>
        intro a
        show mixL ops (fun _ => undef) (Array.replicate ops.size false) l (putIf ops (fun _ => undef) (Array.replicate ops.size false) a j) = a
        rw [ih]
        unfold putIf
        rw [if_neg]
        simp [Array.getElem?_replicate]
        split <;> simp
    exact (this _ _).symm
  · intro j hj h
    have : j < ops.size := by omega
    simp [Array.getElem?_replicate, this] at h
  · rintro listed a x ⟨hs, hI⟩ i o ho hun hpre
    have hi : i < ops.size := (Array.getElem?_eq_some_iff.1 ho).1
    have hf : listed.getD i false = false := by
      have : i < listed.size := by omega
      simp [this] at hun ⊢; exact hun
    have hdo : dstOf ops i = o.dst := by unfold dstOf; rw [ho]; rfl
    rcases hI with ⟨V, hcl, hln, hln1, rfl, hB, hV⟩ | ⟨V, v, hall, hln1, rfl, hq⟩ | ⟨rfl, _⟩
    · have hρ : ∀ t, isDstN ops n t = false → (mix ops V a0 listed).eval t = a0.eval t := fun t ht => mixL_outL _ _ fun j hj hl d hdd => by
        intro he
        subst he
        have hjn : j < n := by
          have h1 := List.mem_range.1 hj
          rcases Nat.lt_or_ge j n with h | h
          · exact h
          · exfalso
            have : j = n ∨ j = n + 1 := by omega
            rcases this with rfl | rfl
            · rw [hln] at hl; cases hl
            · rw [hln1] at hl; cases hl
        unfold isDstN at ht
        rw [List.any_eq_false] at ht
        have := ht j (List.mem_range.2 hjn)
        simp [hdd] at this
      by_cases hin : i < n
      · have hset : ∀ v, mix ops (fun k => if k = i then v else V k) a0 (listed.setIfInBounds i true) = (mix ops V a0 listed).put o.dst v := fun v => by
          have h1 := mix_set (V := fun k => if k = i then v else V k) (a0 := a0) hd hs hi hf
          rw [hdo] at h1
          rw [h1]
          simp only [if_true]
          congr 1
          exact mixL_congr _ _ fun j _ hj => by
            have : j ≠ i := fun e => by rw [e, hf] at hj; cases hj
            simp [this]
        have hnew : ∀ v z, T i v z → Below x.heap.size x z → ∀ j, j < n → (listed.setIfInBounds i true).getD j false = true → T j (if j = i then v else V j) z := fun v z hv hb j hj hl => by
          by_cases hji : j = i
          · subst hji; simpa using hv
          · rw [if_neg hji]
            have : listed.getD j false = true := by
              rw [getD_set_ne false (Ne.symm hji)] at hl
              exact hl
            exact hT j _ _ _ (hV j hj this) hb
        have hkn : (listed.setIfInBounds i true).getD n false = false := by
          have : i ≠ n := by omega
          rw [getD_set_ne false this]
          exact hln
        have hcl' : ∀ i' o', ops[i']? = some o' → (listed.setIfInBounds i true).getD i' false = true → ∀ e ∈ o'.after, Region.binds .any e = true → (listed.setIfInBounds i true).getD e.on false = true := by
          intro i' o' ho' hl' e he hb
          have hle : listed.getD e.on false = true := by
            by_cases hii : i = i'
            · subst hii
              obtain rfl : o = o' := by rw [ho] at ho'; exact Option.some.inj ho'
              exact hpre e he hb
            · rw [getD_set_ne false hii] at hl'
              exact hcl i' o' ho' hl' e he hb
          by_cases hie : i = e.on
          · subst hie
            have : e.on < listed.size := by omega
            simp [this]
          · rw [getD_set_ne false hie]; exact hle
        have hkn1 : (listed.setIfInBounds i true).getD (n + 1) false = false := by
          have : i ≠ n + 1 := by omega
          rw [getD_set_ne false this]
          exact hln1
        have hstep := step i o hin ho (mix ops V a0 listed).eval (yielded ops (mix ops V a0 listed).tmps) x hB
          (fun e he hb d hdd => by
            have hlt := back_spec hbk ho e he hb
            have h1 := mix_at (V := V) (a0 := a0) hd hfit hs (by omega) (hpre e he hb) hdd
            have e1 : (mix ops V a0 listed).eval (.tmp d) = V e.on := by simp [Act.eval, h1]
            rw [e1]
            refine ⟨hV e.on (by omega) (hpre e he hb), ?_⟩
            unfold yielded
            have : ((ops[e.on]?).bind (·.dst)).bind ((mix ops V a0 listed).tmps[·]?) = some (V e.on) := by
              show (dstOf ops e.on).bind _ = _
              rw [hdd]; exact h1
            rw [this]
            unfold boolOf
            cases V e.on <;> rfl) hρ
        unfold wpOp
        rw [ho]
        rcases hstep with ⟨hw1, hg⟩ | ⟨hw0, hv⟩
        · simp only [hw1, if_true]
          refine .inl ?_
          unfold Oper.wp
          rcases hg with ⟨v, x', hg, hv, hb⟩ | ⟨f, args, hg, hc⟩
          · rw [hg, Oper.upon_value]
            exact ⟨by simpa using hs, .inl ⟨_, hcl', hkn, hkn1, (hset v).symm, hB.trans (hb.mono hB.size), hnew v x' hv hb⟩⟩
          · rw [hg, Oper.upon_enter]
            refine hc.mono ?_
            rintro e w' ⟨v, rfl, hv, hb⟩
            exact ⟨by simpa using hs, .inl ⟨_, hcl', hkn, hkn1, (hset v).symm, hB.trans (hb.mono hB.size), hnew v w' hv hb⟩⟩
        · simp only [hw0]
          exact ⟨by simpa using hs, .inl ⟨_, hcl', hkn, hkn1, (hset undef).symm, hB, hnew undef x hv (Below.refl _ _)⟩⟩
      · have hcase : i = n ∨ i = n + 1 := by omega
        rcases hcase with rfl | rfl
        · obtain rfl : o = o1 := by rw [ho1] at ho; exact (Option.some.inj ho).symm
          have hall0 : ∀ d j, i - j ≤ d → j < i → listed.getD j false = true := by
            intro d
            induction d with
            | zero => intro j h1 h2; omega
            | succ d ih =>
              intro j h1 hj
              obtain ⟨i', q, hji, hin', hq, e, he, hb, rfl⟩ := hb3.2.2.1 j hj
              by_cases hii : i' = i
              · subst hii
                obtain rfl : o = q := by rw [ho] at hq; exact Option.some.inj hq
                exact hpre e he hb
              · exact hcl i' q hq (ih i' (by omega) (by omega)) e he hb
          have hall : ∀ j, j < i → listed.getD j false = true := fun j hj => hall0 _ j (Nat.le_refl _) hj
          obtain ⟨v, x', hx, hq⟩ := last V (mix ops V a0 listed).eval x hB (fun j hj => hV j hj (hall j hj)) (fun j hj d hdd => by
            have h1 := mix_at (V := V) (a0 := a0) hd hfit hs (by omega) (hall j hj) hdd
            simp [Act.eval, h1]) hρ
          refine wpOp_of ho hb3.1 fun K hK => ?_
          unfold Oper.wp
          rw [hx, Oper.upon_value]
          refine hK _ _ ⟨by simpa using hs, .inr (.inl ⟨V, v, ?_, ?_, ?_, hq⟩)⟩
          · intro j hj
            by_cases hji : i = j
            · subst hji
              have : i < listed.size := by omega
              simp [this]
            · rw [getD_set_ne false hji]
              exact hall j (by omega)
          · rw [getD_set_ne false (by omega)]
            exact hln1
          · have h1 := mix_set (V := fun k => if k < i then V k else v) (a0 := a0) hd hs hi hf
            rw [hdo] at h1
            rw [h1]
            simp only [Nat.lt_irrefl, if_false]
            congr 1
            exact mixL_congr _ _ fun j _ hj => by
              have hji : j ≠ i := fun e => by rw [e, hf] at hj; cases hj
              have hj1 : j ≠ i + 1 := fun e => by rw [e, hln1] at hj; cases hj
              have : j < i := by
                have hjs : j < listed.size := by
                  rcases Nat.lt_or_ge j listed.size with h | h
                  · exact h
                  · simp [Array.getElem?_eq_none h] at hj
                omega
              simp [this]
        · exfalso
          obtain rfl : o = o2 := by rw [ho2] at ho; exact (Option.some.inj ho).symm
          obtain ⟨e, he, hb, h2⟩ := hb3.2.2.2
          have := hpre e he hb
          rw [h2, hln] at this
          cases this
    · have hin : i = n + 1 := by
        rcases Nat.lt_or_ge i (n + 1) with h | h
        · rw [hall i h] at hf; cases hf
        · omega
      subst hin
      obtain rfl : o = o2 := by rw [ho2] at ho; exact (Option.some.inj ho).symm
      have h1 := mix_at (V := fun k => if k < n then V k else v) (a0 := a0) hd hfit hs (by omega) (hall n (by omega)) hdn
      simp only [Nat.lt_irrefl, if_false] at h1
      have e1 : (mix ops (fun k => if k < n then V k else v) a0 listed).eval (.tmp d1) = v := by simp [Act.eval, h1]
      have hx := asg _ x v e1
      have hnow : listed.setIfInBounds (n + 1) true = Array.replicate ops.size true := by
        apply Array.ext
        · simpa using hs
        · intro k h1 h2
          by_cases hk : n + 1 = k
          · subst hk; simp
          · have hks : k < listed.size := by simpa using h1
            have hal := hall k (by omega)
            simp [hks] at hal
            rw [Array.getElem_setIfInBounds_ne _ hk]
            · simp [hal]
            · exact hks
      refine wpOp_of ho hb3.2.1 fun K hK => ?_
      unfold Oper.wp
      rw [hx, Oper.upon_value]
      refine hK _ _ ⟨by simpa using hs, .inr (.inr ⟨hnow, ?_⟩)⟩
      have h2 := mix_set (V := fun k => if k < n then V k else v) (a0 := a0) hd hs hi hf
      rw [hdo, hnow, hA] at h2
      have h3 : ¬ n + 1 < n := by omega
      simp only [h3, if_false] at h2
      rw [← h2]
      exact hq
    · exfalso
      simp [hi] at hun
  · rintro listed a x ⟨hs, hI⟩ hall
    have hall2 : ∀ i, i < ops.size → listed.getD i false = true := fun i hi => by
      have h := hall i hi
      have : i < listed.size := by omega
      simp [this] at h ⊢; exact h
    rcases hI with ⟨V, _, hln, _⟩ | ⟨V, v, _, hln1, _⟩ | ⟨_, hq⟩
    · have := hall2 n (by omega)
      rw [hln] at this
      cases this
    · have := hall2 (n + 1) (by omega)
      rw [hln1] at this
      cases this
    · exact hq
end
end Go.Proofs.Ytbjegekfghihkaa

/-
  What an instruction may call: the contract of the program's callsFrom and FlowCalls.
-/
namespace Go.Proofs.Ytbjegekfghihkaa
open Go.RowKit
set_option linter.unusedVariables false
set_option linter.unusedSimpArgs false

/-- the numbers of calls of one procedure, with these kinds -/
def callN (B : Int) (K : List Int) (j : Nat) : Int := if j % 2 = 0 then B else K.getD (j / 2) 0
def cellsC (B : Int) (K : List Int) : List Value := K.flatMap fun q => [.int .i64 B, .int .i64 q]
theorem cellsC_app (B : Int) (K : List Int) (q : Int) : cellsC B (K ++ [q]) = cellsC B K ++ [.int .i64 B, .int .i64 q] := by simp [cellsC]
theorem cellsC_get (B : Int) (K : List Int) (j : Nat) (h : j < K.length * 2) : (cellsC B K)[j]? = some (.int .i64 (callN B K j)) := by
  induction K generalizing j with
  | nil => simp at h
  | cons q K ih =>
    match j with
    | 0 => simp [cellsC, callN]
    | 1 => simp [cellsC, callN]
    | j + 2 =>
      have h2 : j < K.length * 2 := by simp at h; omega
      have := ih j h2
      simp only [cellsC, List.flatMap_cons] at this ⊢
      rw [show ([Value.int .i64 B, .int .i64 q] ++ List.flatMap (fun q => [Value.int .i64 B, .int .i64 q]) K)[j + 2]? = (List.flatMap (fun q => [Value.int .i64 B, .int .i64 q]) K)[j]? by simp]
      rw [this]
      have e1 : (j + 2) % 2 = j % 2 := by omega
      have e2 : (j + 2) / 2 = j / 2 + 1 := by omega
      simp [callN, e1, e2]
/-- a row of calls that is owned reads so -/
theorem callsOwn {x : World} {B : Nat} {v : Value} {b : Int} {K : List Int} (h : x.ownsRow B 78 2 v K.length (cellsC b K)) (hm : K.length ≤ 3) : IRow 2 true x B x.heap.size v K.length (callN b K) := by
  rcases h.2 with ⟨e, hn⟩ | ⟨g, cap, cur, e, hb, hg, hnc, hcm, hcs, ht⟩
  · exact ⟨none, 0, by rw [e, hn], by unfold maxLen; omega, .inl hn⟩
  · subst e
    refine ⟨_, cap, rfl, by unfold maxLen; omega, .inr ⟨g, 0, rfl, hb, (Array.getElem?_eq_some_iff.1 hg).1, Nat.le_refl _, fun _ k => World.ownsRow.frozenAt h k, fun j hj => ?_⟩⟩
    rw [Nat.zero_add, World.ownsRow.cellAt h j hj, cellsC_get b K j hj]
theorem takeC {K : List Int} {k : Nat} (h : k < K.length) : K.take (k + 1) = K.take k ++ [K.getD k 0] := by
  rw [List.take_add_one, List.getD_eq_getElem?_getD, List.getElem?_eq_getElem h]
  rfl
def kindsAt (s : Sp) : List Int := KL s.1 s.2.1 s.2.2 3
/-- the kinds with which an instruction calls -/
def callK (c : List I4) (m : Nat) (L : List Sp) : List Int := if m = c.length then [] else if (c.getD m i0).1 = 8 then kindsAt (L.getD (c.getD m i0).2.2.2.toNat noSp) else []
theorem callK_len (c : List I4) (m : Nat) (L : List Sp) : (callK c m L).length ≤ 3 := by
  unfold callK kindsAt
  split
  · simp
  · split
    · exact KL_len _ _ _ _
    · simp
/-- the procedure that it calls -/
def callB (c : List I4) (m : Nat) : Int := (c.getD m i0).2.2.1

theorem infoCall2 : ∃ i, Try.prog.info? 78 = some i ∧ i.zero = some (.agg #[.int .i64 0, .int .i64 0]) ∧ i.size = 2 ∧ i.bytes = 16 := info_parts (by kernel_rfl)

/-- a call is put behind a row that is owned -/
theorem app_call (w : World) (ty : TypeId) (base n : Nat) (v : Value) (xs : List Value) (b q : Int) (hown : w.ownsRow base 78 2 v n xs) (hn : n ≤ 100) (hbase : base ≤ w.heap.size) :
    ∃ v' w', (Builtin.append_ #[30, 30] ty #[v, .slice (some ⟨w.heap.size, 0, none⟩) 1 1]).run Try.prog (w.alloc (.cells #[.int .i64 b, .int .i64 q] 78)) = .ok v' w' ∧ w'.ownsRow base 78 2 v' (n + 1) (xs ++ [.int .i64 b, .int .i64 q]) ∧ Below base w w' := by
  obtain ⟨i, hi, hz0, hz1, hz2⟩ := infoCall2
  obtain ⟨v', w', hr, h2, h3, h4, h5⟩ := run_append_own_at (P := Try.prog) (w.alloc (.cells #[.int .i64 b, .int .i64 q] 78)) base 30 ty 78 i (.agg #[.int .i64 0, .int .i64 0]) 2 16 Try.underlying30 hi hz0 hz1 hz2 rfl (by omega) v n xs (hown.alloc _) ⟨w.heap.size, 0, none⟩ 1 1 [.int .i64 b, .int .i64 q] rfl
    (by
      intro j u hu
      rw [Addr.add_mid]
      match j, hu with
      | 0, hu => obtain rfl : Value.int .i64 b = u := by simpa using hu
                 simp [go_sem]
      | 1, hu => obtain rfl : Value.int .i64 q = u := by simpa using hu
                 simp [go_sem]
      | j + 2, hu => simp at hu)
    (by intro u hu; simp at hu; rcases hu with rfl | rfl <;> rfl) (by unfold maxLen; omega) (by omega) (by simp; omega)
  exact ⟨v', w', hr, h2, ((Below.refl base w).alloc hbase _).grown h3 (by simp; omega) (fun k hk => (hown.lt k hk).1)⟩

end Go.Proofs.Ytbjegekfghihkaa
