import Derived.Test.YtdomalclpjijaaaB1
import Derived.WalkKit
/-
  A region that draws its order, makes no memory of its own and leaves in each slot a value of which something is known whatever the order.
-/
namespace Go.Proofs.Ytdomalclpjijaaa
open Go.RowKit
set_option linter.unusedVariables false
set_option linter.unusedSimpArgs false

section
variable {P : Program} {ops : Array Oper} {Q : Exit → Act → World → Prop}

theorem mixL_congr {V V' : Nat → Value} {listed : Array Bool} : ∀ (l : List Nat) (a : Act), (∀ j ∈ l, listed.getD j false = true → V j = V' j) → mixL ops V listed l a = mixL ops V' listed l a
  | [], a, _ => rfl
  | j :: l, a, h => by
    show mixL ops V listed l (putIf ops V listed a j) = mixL ops V' listed l (putIf ops V' listed a j)
    have e : putIf ops V listed a j = putIf ops V' listed a j := by
      unfold putIf
      split
      · rw [h j (by simp) (by assumption)]
      · rfl
    rw [e]
    exact mixL_congr l _ fun k hk => h k (List.mem_cons_of_mem _ hk)

/-- operation o, its operands being read by ρ, gives a value of which T holds -/
def GivesP (P : Program) (ρ : Operand → Value) (o : Oper) (T : Value → World → Prop) (x : World) : Prop :=
  (∃ v x', (execOp ρ o).run P x = .ok (.value v) x' ∧ T v x' ∧ Below x.heap.size x x') ∨ ∃ f args, (execOp ρ o).run P x = .ok (.enter f args) x ∧ Calls P f args x fun e w' => ∃ v, e = .returned v ∧ T v w' ∧ Below x.heap.size x w'
theorem GivesP.val {ρ : Operand → Value} {o : Oper} {T : Value → World → Prop} {x : World} (v : Value) (hT : T v x) (h : (execOp ρ o).run P x = .ok (.value v) x) : GivesP P ρ o T x := .inl ⟨v, x, h, hT, Below.refl _ _⟩
theorem GivesP.made {ρ : Operand → Value} {o : Oper} {T : Value → World → Prop} {x : World} (v : Value) (x' : World) (hb : Below x.heap.size x x') (hT : T v x') (h : (execOp ρ o).run P x = .ok (.value v) x') : GivesP P ρ o T x := .inl ⟨v, x', h, hT, hb⟩
theorem GivesP.call {ρ : Operand → Value} {o : Oper} {T : Value → World → Prop} {x : World} {f : FuncId} {args : Array Value} (hc : Calls P f args x fun e w' => ∃ v, e = .returned v ∧ T v w' ∧ Below x.heap.size x w') (h : (execOp ρ o).run P x = .ok (.enter f args) x) : GivesP P ρ o T x := .inr ⟨f, args, h, hc⟩

theorem wp_region_preds {id : Nat} {a0 : Act} {w : World} (hm : P.follows .mixedOrders = true) (hbk : backB .any ops = true) (hd : distB ops = true) (hfit : fitB ops a0.tmps.size = true) (T : Nat → Value → World → Prop) (hT : ∀ i v x y, T i v x → Below x.heap.size x y → T i v y) (w0 : World) (hw : Below w0.heap.size w0 w.drew)
    (step : ∀ (i : Nat) (o : Oper), ops[i]? = some o → ∀ (ρ : Operand → Value) (y : Nat → Option Bool) (x : World), Below w0.heap.size w0 x →
      (∀ e ∈ o.after, Region.binds .any e = true → ∀ d, dstOf ops e.on = some d → T e.on (ρ (.tmp d)) x ∧ y e.on = boolOf (ρ (.tmp d))) →
      (∀ t, isDst ops t = false → ρ t = a0.eval t) →
      (Region.wanted o y = true ∧ GivesP P ρ o (T i) x) ∨ (Region.wanted o y = false ∧ T i undef x))
    (A : (Nat → Value) → Act) (hA : ∀ V, mix ops V a0 (Array.replicate ops.size true) = A V)
    (fin : ∀ (V : Nat → Value) x, Below w0.heap.size w0 x → (∀ j, j < ops.size → T j (V j) x) → Q .normal (A V) x) : (Code.region id ops true).wp P Q a0 w := by
  refine wp_region_inv hm hbk (fun listed a x => ∃ V, listed.size = ops.size ∧ a = mix ops V a0 listed ∧ Below w0.heap.size w0 x ∧ ∀ j, j < ops.size → listed.getD j false = true → T j (V j) x) ⟨fun _ => undef, by simp, ?_, hw, ?_⟩ ?_ ?_
  · have : ∀ (l : List Nat) (a : Act), mixL ops (fun _ => undef) (Array.replicate ops.size false) l a = a := by
      intro l
      induction l with
      | nil => intro a; rfl
      | cons j l ih =>
        intro a
        show mixL ops (fun _ => undef) (Array.replicate ops.size false) l (putIf ops (fun _ => undef) (Array.replicate ops.size false) a j) = a
        rw [ih]
        unfold putIf
        rw [if_neg]
        simp [Array.getElem?_replicate]
        split <;> simp
    exact (this _ _).symm
  · intro j hj h
    simp [Array.getElem?_replicate, hj] at h
  · rintro listed a x ⟨V, hs, rfl, hB, hV⟩ i o ho hun hpre
    have hi : i < ops.size := (Array.getElem?_eq_some_iff.1 ho).1
    have hf : listed.getD i false = false := by
      have : i < listed.size := by omega
      simp [this] at hun ⊢; exact hun
    have hdo : dstOf ops i = o.dst := by unfold dstOf; rw [ho]; rfl
    have hset : ∀ v, mix ops (fun k => if k = i then v else V k) a0 (listed.setIfInBounds i true) = (mix ops V a0 listed).put o.dst v := fun v => by
      have h1 := mix_set (V := fun k => if k = i then v else V k) (a0 := a0) hd hs hi hf
      rw [hdo] at h1
      rw [h1]
      simp only [if_true]
      congr 1
      exact mixL_congr _ _ fun j _ hj => by
        have : j ≠ i := fun e => by rw [e, hf] at hj; cases hj
        simp [this]
    have hnew : ∀ v z, T i v z → Below x.heap.size x z → ∀ j, j < ops.size → (listed.setIfInBounds i true).getD j false = true → T j (if j = i then v else V j) z := fun v z hv hb j hj hl => by
      by_cases hji : j = i
      · subst hji; simpa using hv
      · rw [if_neg hji]
        have : listed.getD j false = true := by
          rw [getD_set_ne false (Ne.symm hji)] at hl
          exact hl
        exact hT j _ _ _ (hV j hj this) hb
    have hstep := step i o ho (mix ops V a0 listed).eval (yielded ops (mix ops V a0 listed).tmps) x hB
      (fun e he hb d hdd => by
        have hlt := back_spec hbk ho e he hb
        have h1 := mix_at (V := V) (a0 := a0) hd hfit hs (by omega) (hpre e he hb) hdd
        have e1 : (mix ops V a0 listed).eval (.tmp d) = V e.on := by simp [Act.eval, h1]
        rw [e1]
        refine ⟨hV e.on (by omega) (hpre e he hb), ?_⟩
        unfold yielded
        have : ((ops[e.on]?).bind (·.dst)).bind ((mix ops V a0 listed).tmps[·]?) = some (V e.on) := by
          show (dstOf ops e.on).bind _ = _
          rw [hdd]; exact h1
        rw [this]
        unfold boolOf
        cases V e.on <;> rfl)
      (fun t ht => mixL_out _ _ fun j hj d hdd => by
        intro he
        subst he
        unfold isDst at ht
        rw [List.any_eq_false] at ht
        have := ht j hj
        simp [hdd] at this)
    unfold wpOp
    rw [ho]
    rcases hstep with ⟨hw1, hg⟩ | ⟨hw0, hv⟩
    · simp only [hw1, if_true]
      refine .inl ?_
      unfold Oper.wp
      rcases hg with ⟨v, x', hg, hv, hb⟩ | ⟨f, args, hg, hc⟩
      · rw [hg, Oper.upon_value]
        exact ⟨_, by simpa using hs, (hset v).symm, hB.trans (hb.mono hB.size), hnew v x' hv hb⟩
      · rw [hg, Oper.upon_enter]
        refine hc.mono ?_
        rintro e w' ⟨v, rfl, hv, hb⟩
        exact ⟨_, by simpa using hs, (hset v).symm, hB.trans (hb.mono hB.size), hnew v w' hv hb⟩
    · simp only [hw0]
      exact ⟨_, by simpa using hs, (hset undef).symm, hB, hnew undef x hv (Below.refl _ _)⟩
  · rintro listed a x ⟨V, hs, rfl, hB, hV⟩ hall
    have : listed = Array.replicate ops.size true := by
      apply Array.ext
      · simpa using hs
      · intro k h1 h2
        have := hall k (by omega)
        simp [h1] at this
        simp [this]
    rw [this, hA V]
    exact fin V x hB fun j hj => hV j hj (by rw [this]; simp [Array.getElem?_replicate, hj])
end
end Go.Proofs.Ytdomalclpjijaaa

/-
  The plain functions of words and spans that both the program and its model are shown to compute: no claim by itself.
-/
namespace Go.Proofs.Ytdomalclpjijaaa

/-- the word that a number is -/
def wrapF (n : Int) : Int := if n.tmod 32 < -16 then n.tmod 32 + 32 else if 15 < n.tmod 32 then n.tmod 32 - 32 else n.tmod 32
def inB (n lo hi : Int) : Bool := decide (lo ≤ n ∧ n ≤ hi)
def isW (n : Int) : Bool := decide (-16 ≤ n ∧ n ≤ 15)
/-- what an operation gives, ahead of wrapping -/
def rawF (op a b : Int) : Int :=
  if op = 1 then a + b else if op = 2 then a - b else if op = 3 then a * b else if op = 4 then a.tdiv b
  else if op = 5 then (if a < b then 1 else 0) else if op = 6 then (if a = b then 1 else 0) else 0
/-- whether an operation can be done with two words -/
def canF (op b : Int) : Bool := decide (1 ≤ op ∧ op ≤ 6 ∧ ¬ (op = 4 ∧ b = 0))
def doOk (op a b : Int) : Bool := isW a && isW b && canF op b
def doF (op a b : Int) : Int := if doOk op a b = true then wrapF (rawF op a b) else 0

/-- a span: whether there are any, the least, the greatest -/
abbrev Sp := Bool × Int × Int
def noSp : Sp := (false, 0, 0)
def okF (any : Bool) (lo hi : Int) : Bool := if any = true then decide (-16 ≤ lo ∧ lo ≤ 15 ∧ -16 ≤ hi ∧ hi ≤ 15 ∧ lo ≤ hi) else decide (lo = 0 ∧ hi = 0)
def ofF (n : Int) : Sp := if isW n = true then (true, n, n) else noSp
def hasF (any : Bool) (lo hi n : Int) : Bool := any && okF any lo hi && decide (lo ≤ n ∧ n ≤ hi)
def inF (a : Bool) (al ah : Int) (b : Bool) (bl bh : Int) : Bool :=
  okF a al ah && okF b bl bh && (!a || (b && decide (bl ≤ al ∧ ah ≤ bh)))
def mkF (lo hi : Int) : Sp := if hi < lo then noSp else (true, lo, hi)
def joinF (a : Bool) (al ah : Int) (b : Bool) (bl bh : Int) : Sp :=
  if (okF a al ah && okF b bl bh) = false then noSp
  else if a = false then (b, bl, bh) else if b = false then (a, al, ah) else (true, min al bl, max ah bh)
def bothF (a : Bool) (al ah : Int) (b : Bool) (bl bh : Int) : Bool := okF a al ah && okF b bl bh && a && b
def meetF (a : Bool) (al ah : Int) (b : Bool) (bl bh : Int) : Sp :=
  if bothF a al ah b bl bh = true then mkF (max al bl) (min ah bh) else noSp
def downF (n : Int) : Int := if 0 ≤ n then 0 else if -4 ≤ n then -4 else -16
def upF (n : Int) : Int := if n ≤ 0 then 0 else if n ≤ 4 then 4 else 15
def wideF (a : Bool) (al ah : Int) (b : Bool) (bl bh : Int) : Sp :=
  if bothF a al ah b bl bh = true then
    (true, (if min al bl < al then downF (min al bl) else min al bl), (if ah < max ah bh then upF (max ah bh) else max ah bh))
  else joinF a al ah b bl bh
def kindF (k : Int) : Sp := if k = 0 then (true, -16, -1) else if k = 1 then (true, 0, 0) else if k = 2 then (true, 1, 15) else noSp

theorem wrapF_bd (n : Int) : -16 ≤ wrapF n ∧ wrapF n ≤ 15 := by
  unfold wrapF
  have h := Int.tmod_lt_of_pos n (b := 32) (by omega)
  have h2 := Int.lt_tmod_of_pos n (b := 32) (by omega)
  repeat' split
  all_goals omega

end Go.Proofs.Ytdomalclpjijaaa
