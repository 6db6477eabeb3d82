import Derived.Test.YtlkebkajdlgebaaGreatB3
import Derived.Test.YtlkebkajdlgebaaGreatB12
import Derived.Test.YtlkebkajdlgebaaGreatB7
import Derived.Test.YtlkebkajdlgebaaGreatB10
/-
  The contracts of StateOk, the program's and the model's.
-/
namespace Go.Proofs.YtlkebkajdlgebaaGreat
open Go.RowKit
set_option linter.unusedVariables false
set_option linter.unusedSimpArgs false

def someF (s : Sp) : Bool := s.1 && okF s.1 s.2.1 s.2.2
/-- whether a state is ok -/
def stOk (a : Bool) (L : List Sp) (c : Sp) : Bool := if a = true then decide (L.length = 3) && L.all someF && someF c else decide (L.length = 0) && decide (c = noSp)

theorem all_yes {L : List Sp} (f : Sp → Bool) (h : ∀ j, j < L.length → f (L.getD j noSp) = true) : L.all f = true := by
  rw [List.all_eq_true]
  intro s hs
  obtain ⟨j, hj, rfl⟩ := List.getElem_of_mem hs
  have := h j hj
  rwa [List.getD_eq_getElem?_getD, List.getElem?_eq_getElem hj] at this
theorem all_no {L : List Sp} (f : Sp → Bool) {j : Nat} (hj : j < L.length) (h : f (L.getD j noSp) = false) : L.all f = false := by
  rw [List.all_eq_false]
  refine ⟨L[j], List.getElem_mem hj, ?_⟩
  rw [List.getD_eq_getElem?_getD, List.getElem?_eq_getElem hj] at h
  simpa using h
/-- the box of a state that a call has made first of all -/
theorem box5 {x y : World} {v0 v1 v2 v3 v4 : Value} {t : TypeId} (hb : Below (x.heap.size + 1) (x.alloc (.cells #[v0, v1, v2, v3, v4] t)) y) :
    y.cell? ⟨x.heap.size, 0, none⟩ = some v0 ∧ y.cell? ⟨x.heap.size, 1, none⟩ = some v1 ∧ y.cell? ⟨x.heap.size, 2, none⟩ = some v2 ∧ y.cell? ⟨x.heap.size, 3, none⟩ = some v3 ∧ y.cell? ⟨x.heap.size, 4, none⟩ = some v4 :=
  ⟨(hb.cell (p := ⟨x.heap.size, 0, none⟩) (by simp)).trans (by simp [go_sem]), (hb.cell (p := ⟨x.heap.size, 1, none⟩) (by simp)).trans (by simp [go_sem]), (hb.cell (p := ⟨x.heap.size, 2, none⟩) (by simp)).trans (by simp [go_sem]), (hb.cell (p := ⟨x.heap.size, 3, none⟩) (by simp)).trans (by simp [go_sem]), (hb.cell (p := ⟨x.heap.size, 4, none⟩) (by simp)).trans (by simp [go_sem])⟩
theorem below_box {x y : World} {o : Obj} (hb : Below (x.heap.size + 1) (x.alloc o) y) : Below x.heap.size x y := ((Below.refl _ _).alloc (Nat.le_refl _) _).trans (hb.mono (by omega))
theorem box_go {X y z : World} {n : Nat} (h : Below n X y) (hn : n ≤ X.heap.size) (hb : Below y.heap.size y z) : Below n X z := h.trans (hb.mono (Nat.le_trans hn h.size))

theorem l1SomeS (a : Bool) (l u : Int) (w : World) : Calls Tryz.prog 89 #[.agg #[.bool a, .int .i64 l, .int .i64 u]] w fun e w' => e = .returned (.bool (someF (a, l, u))) ∧ Below w.heap.size w w' := l1Some_any a l u w

end Go.Proofs.YtlkebkajdlgebaaGreat

/-
  Whether there is a procedure: the contracts of hasProc and l2Proc; of insAt; of comesBy and l12At.
-/
namespace Go.Proofs.YtlkebkajdlgebaaGreat
open Go.RowKit
set_option linter.unusedVariables false
set_option linter.unusedSimpArgs false

theorem ProgAt.shape {x : World} {B : Nat} {v : Value} {P : List (List I4)} (h : ProgAt x B v P) : ∃ p cap, v = .slice p P.length cap ∧ P.length ≤ maxLen := by
  obtain ⟨p, cap, hv, hm, _⟩ := h
  exact ⟨p, cap, hv, hm⟩
/-- a procedure's code -/
theorem ProgAt.code {x : World} {B : Nat} {p : Option Addr} {cap : Nat} {P : List (List I4)} (h : ProgAt x B (.slice p P.length cap) P) {k : Nat} (hk : k < P.length) :
    ∃ g o u, p = some ⟨g, o, none⟩ ∧ g < x.heap.size ∧ x.cell? ⟨g, o + k, none⟩ = some u ∧ CodeAt x B u (P.getD k []) := by
  obtain ⟨p', cap', hv, _, hc⟩ := h
  injection hv with e1 e2 e3
  subst e1
  rcases hc with h0 | ⟨g, o, hp, _, hg, hj⟩
  · omega
  · obtain ⟨u, hu, hcu⟩ := hj k hk
    exact ⟨g, o, u, hp, hg, hu, hcu⟩
theorem CodeAt.ins {x : World} {B : Nat} {p : Option Addr} {cap : Nat} {c : List I4} (h : CodeAt x B (.slice p c.length cap) c) {j : Nat} (hj : j < c.length) :
    ∃ g o, p = some ⟨g, o, none⟩ ∧ g < x.heap.size ∧ Ins4 x g (o + j * 4) (c.getD j i0) := by
  obtain ⟨p', cap', hv, _, hc⟩ := h
  injection hv with e1 e2 e3
  subst e1
  rcases hc with h0 | ⟨g, o, hp, _, hg, hj'⟩
  · omega
  · exact ⟨g, o, hp, hg, hj' j hj⟩
theorem CodeAt.shape {x : World} {B : Nat} {v : Value} {c : List I4} (h : CodeAt x B v c) : ∃ p cap, v = .slice p c.length cap ∧ c.length ≤ maxLen := by
  obtain ⟨p, cap, hv, hm, _⟩ := h
  exact ⟨p, cap, hv, hm⟩
theorem progOkF_len {P : List (List I4)} (h : progOkF P = true) : 1 ≤ P.length ∧ P.length ≤ 4 := by
  simp only [progOkF, Bool.and_eq_true, decide_eq_true_eq] at h
  exact h.1
theorem progOkF_code {P : List (List I4)} (h : progOkF P = true) {k : Nat} (hk : k < P.length) : (P.getD k []).length ≤ 8 ∧ ∀ j, j < (P.getD k []).length → insOkF ((P.getD k []).getD j i0) (P.getD k []).length P.length = true := by
  simp only [progOkF, Bool.and_eq_true, List.all_eq_true] at h
  have hm : P.getD k [] ∈ P := by rw [List.getD, List.getElem?_eq_getElem hk]; simp
  have h2 := h.2 _ hm
  simp only [codeOkF, Bool.and_eq_true, decide_eq_true_eq, List.all_eq_true] at h2
  generalize P.getD k [] = C at h2
  exact ⟨h2.1, fun j hj => h2.2 _ (by rw [List.getD, List.getElem?_eq_getElem hj]; simp)⟩

/-- whether a program is ok and has that procedure -/
def hasPF (P : List (List I4)) (k : Int) : Bool := progOkF P && inI k 0 (P.length - 1)
theorem hasPF_at {P : List (List I4)} {k : Int} (h : hasPF P k = true) : ∃ n : Nat, k = n ∧ n < P.length ∧ progOkF P = true := by
  simp only [hasPF, inI, Bool.and_eq_true, decide_eq_true_eq] at h
  exact ⟨k.toNat, by omega, by omega, h.1⟩

set_option maxHeartbeats 1000000 in
theorem l2Proc_any (x : World) (B : Nat) (v : Value) (P : List (List I4)) (h : ProgAt x B v P) (k : Int) :
    Calls Tryz.prog 31 #[v, .int .i64 k] x fun e y => e = .returned (.bool (hasPF P k)) ∧ Below x.heap.size x y := by
  obtain ⟨p, cap, rfl, hm⟩ := h.shape
  have H : Hid (ProgAt x B (.slice p P.length cap) P) := h
  clear h hm
  go_enter Tryz.func31, Tryz.ntmps31
  go_wp2_with fail
  refine (progOk_spec _ _ _ P H.out).mono ?_
  rintro e y ⟨rfl, hb⟩
  cases hok : progOkF P
  · go_wp2_with fail
    go_ret
    exact ⟨retBool (by simp [hasPF, hok]), hb⟩
  · have hl := progOkF_len hok
    have hb1 : (P.length : Int) ≤ 4 := by omega
    go_wp2_with fail
    refine (l6In_e _ _ _ _).mono ?_
    rintro e z ⟨rfl, rfl⟩
    go_wp2_with fail
    go_ret
    exact ⟨retBool (by simp [hasPF, hok]), hb⟩

/-- the instruction at a place, behind its interface; nil at the end -/
def insF (c : List I4) (at_ : Nat) : Value := if at_ = c.length then .nilIface else ifcF (c.getD at_ i0)

set_option maxHeartbeats 1000000 in
theorem insAt_impl (x : World) (B : Nat) (v : Value) (P : List (List I4)) (h : ProgAt x B v P) (k a : Nat) (hk : k < P.length) (hl : P.length ≤ 4) (ha : a ≤ (P.getD k []).length) (h8 : (P.getD k []).length ≤ 8) :
    Calls Tryz.prog 123 #[v, .int .i64 k, .int .i64 a] x fun e y => e = .returned (insF (P.getD k []) a) ∧ Below x.heap.size x y := by
  obtain ⟨p, cap, rfl, hm⟩ := h.shape
  obtain ⟨g, o, u, rfl, hg, hu, hc⟩ := h.code hk
  obtain ⟨pk, ck, rfl, _⟩ := hc.shape
  have HC : Hid (CodeAt x B (.slice pk (P.getD k []).length ck) (P.getD k [])) := hc
  clear hc h hm
  generalize P.getD k [] = C at *
  generalize P.length = n at *
  have hki : (k : Int) < (n : Int) := by omega
  have hn4 : (n : Int) ≤ 4 := by omega
  have hc8 : (C.length : Int) ≤ 8 := by omega
  by_cases he : a = C.length
  · have hf : insF C a = .nilIface := by simp [insF, he]
    rw [hf]
    clear hf
    subst he
    go_enter Tryz.func123, Tryz.ntmps123
    go_wp2_with fail
    go_ret
    exact ⟨rfl, Below.refl _ _⟩
  · have hf : insF C a = ifcF (C.getD a i0) := by simp [insF, he]
    rw [hf]
    clear hf
    obtain ⟨g2, o2, rfl, hg2, hI⟩ := HC.out.ins (j := a) (by omega)
    obtain ⟨q0, q1, q2, q3⟩ := hI
    clear HC
    generalize C.getD a i0 = I at *
    generalize C.length = m at *
    have hai : (a : Int) < (m : Int) := by omega
    have hne : ((a : Int) == (m : Int)) = false := by simp; omega
    go_enter Tryz.func123, Tryz.ntmps123
    go_wp2_with fail
    refine (instructionOf_any I _).mono ?_
    rintro e y ⟨rfl, hb⟩
    go_wp2_with fail
    go_ret
    exact ⟨rfl, hb⟩

/-- whether a place is one of a procedure's code -/
def placeF (P : List (List I4)) (k a : Int) : Bool := inI a 0 ((P.getD k.toNat []).length)
/-- whether one comes by a place with a state -/
def comesF (P : List (List I4)) (k at_ : Int) (a : Bool) (L : List Sp) (c : Sp) : Bool := hasPF P k && placeF P k at_ && stOk a L c && a

end Go.Proofs.YtlkebkajdlgebaaGreat

/-
  A region that draws its order, makes no memory of its own and leaves in each slot a value of which something is known whatever the order.
-/
namespace Go.Proofs.YtlkebkajdlgebaaGreat
open Go.RowKit
set_option linter.unusedVariables false
set_option linter.unusedSimpArgs false

section
variable {P : Program} {ops : Array Oper} {Q : Exit → Act → World → Prop}

theorem mixL_congr {V V' : Nat → Value} {listed : Array Bool} : ∀ (l : List Nat) (a : Act), (∀ j ∈ l, listed.getD j false = true → V j = V' j) → mixL ops V listed l a = mixL ops V' listed l a
  | [], a, _ => rfl
  | j :: l, a, h => by
    show mixL ops V listed l (putIf ops V listed a j) = mixL ops V' listed l (putIf ops V' listed a j)
    have e : putIf ops V listed a j = putIf ops V' listed a j := by
      unfold putIf
      split
      · rw [h j (by simp) (by assumption)]
      · rfl
    rw [e]
    exact mixL_congr l _ fun k hk => h k (List.mem_cons_of_mem _ hk)

/-- operation o, its operands being read by ρ, gives a value of which T holds -/
def GivesP (P : Program) (ρ : Operand → Value) (o : Oper) (T : Value → World → Prop) (x : World) : Prop :=
  (∃ v x', (execOp ρ o).run P x = .ok (.value v) x' ∧ T v x' ∧ Below x.heap.size x x') ∨ ∃ f args, (execOp ρ o).run P x = .ok (.enter f args) x ∧ Calls P f args x fun e w' => ∃ v, e = .returned v ∧ T v w' ∧ Below x.heap.size x w'
theorem GivesP.val {ρ : Operand → Value} {o : Oper} {T : Value → World → Prop} {x : World} (v : Value) (hT : T v x) (h : (execOp ρ o).run P x = .ok (.value v) x) : GivesP P ρ o T x := .inl ⟨v, x, h, hT, Below.refl _ _⟩
theorem GivesP.made {ρ : Operand → Value} {o : Oper} {T : Value → World → Prop} {x : World} (v : Value) (x' : World) (hb : Below x.heap.size x x') (hT : T v x') (h : (execOp ρ o).run P x = .ok (.value v) x') : GivesP P ρ o T x := .inl ⟨v, x', h, hT, hb⟩
theorem GivesP.call {ρ : Operand → Value} {o : Oper} {T : Value → World → Prop} {x : World} {f : FuncId} {args : Array Value} (hc : Calls P f args x fun e w' => ∃ v, e = .returned v ∧ T v w' ∧ Below x.heap.size x w') (h : (execOp ρ o).run P x = .ok (.enter f args) x) : GivesP P ρ o T x := .inr ⟨f, args, h, hc⟩

theorem wp_region_preds {id : Nat} {a0 : Act} {w : World} (hm : P.follows .mixedOrders = true) (hbk : backB .any ops = true) (hd : distB ops = true) (hfit : fitB ops a0.tmps.size = true) (T : Nat → Value → World → Prop) (hT : ∀ i v x y, T i v x → Below x.heap.size x y → T i v y) (w0 : World) (hw : Below w0.heap.size w0 w.drew)
    (step : ∀ (i : Nat) (o : Oper), ops[i]? = some o → ∀ (ρ : Operand → Value) (y : Nat → Option Bool) (x : World), Below w0.heap.size w0 x →
      (∀ e ∈ o.after, Region.binds .any e = true → ∀ d, dstOf ops e.on = some d → T e.on (ρ (.tmp d)) x ∧ y e.on = boolOf (ρ (.tmp d))) →
      (∀ t, isDst ops t = false → ρ t = a0.eval t) →
      (Region.wanted o y = true ∧ GivesP P ρ o (T i) x) ∨ (Region.wanted o y = false ∧ T i undef x))
    (A : (Nat → Value) → Act) (hA : ∀ V, mix ops V a0 (Array.replicate ops.size true) = A V)
    (fin : ∀ (V : Nat → Value) x, Below w0.heap.size w0 x → (∀ j, j < ops.size → T j (V j) x) → Q .normal (A V) x) : (Code.region id ops true).wp P Q a0 w := by
  refine wp_region_inv hm hbk (fun listed a x => ∃ V, listed.size = ops.size ∧ a = mix ops V a0 listed ∧ Below w0.heap.size w0 x ∧ ∀ j, j < ops.size → listed.getD j false = true → T j (V j) x) ⟨fun _ => undef, by simp, ?_, hw, ?_⟩ ?_ ?_
  · have : ∀ (l : List Nat) (a : Act), mixL ops (fun _ => undef) (Array.replicate ops.size false) l a = a := by
      intro l
      induction l with
      | nil => intro a; rfl
      | cons j l ih =>
        intro a
        show mixL ops (fun _ => undef) (Array.replicate ops.size false) l (putIf ops (fun _ => undef) (Array.replicate ops.size false) a j) = a
        rw [ih]
        unfold putIf
        rw [if_neg]
        simp [Array.getElem?_replicate]
        split <;> simp
    exact (this _ _).symm
  · intro j hj h
    simp [Array.getElem?_replicate, hj] at h
  · rintro listed a x ⟨V, hs, rfl, hB, hV⟩ i o ho hun hpre
    have hi : i < ops.size := (Array.getElem?_eq_some_iff.1 ho).1
    have hf : listed.getD i false = false := by
      have : i < listed.size := by omega
      simp [this] at hun ⊢; exact hun
    have hdo : dstOf ops i = o.dst := by unfold dstOf; rw [ho]; rfl
    have hset : ∀ v, mix ops (fun k => if k = i then v else V k) a0 (listed.setIfInBounds i true) = (mix ops V a0 listed).put o.dst v := fun v => by
      have h1 := mix_set (V := fun k => if k = i then v else V k) (a0 := a0) hd hs hi hf
      rw [hdo] at h1
      rw [h1]
      simp only [if_true]
      congr 1
      exact mixL_congr _ _ fun j _ hj => by
        have : j ≠ i := fun e => by rw [e, hf] at hj; cases hj
        simp [this]
    have hnew : ∀ v z, T i v z → Below x.heap.size x z → ∀ j, j < ops.size → (listed.setIfInBounds i true).getD j false = true → T j (if j = i then v else V j) z := fun v z hv hb j hj hl => by
      by_cases hji : j = i
      · subst hji; simpa using hv
      · rw [if_neg hji]
        have : listed.getD j false = true := by
          rw [getD_set_ne false (Ne.symm hji)] at hl
          exact hl
        exact hT j _ _ _ (hV j hj this) hb
    have hstep := step i o ho (mix ops V a0 listed).eval (yielded ops (mix ops V a0 listed).tmps) x hB
      (fun e he hb d hdd => by
        have hlt := back_spec hbk ho e he hb
        have h1 := mix_at (V := V) (a0 := a0) hd hfit hs (by omega) (hpre e he hb) hdd
        have e1 : (mix ops V a0 listed).eval (.tmp d) = V e.on := by simp [Act.eval, h1]
        rw [e1]
        refine ⟨hV e.on (by omega) (hpre e he hb), ?_⟩
        unfold yielded
        have : ((ops[e.on]?).bind (·.dst)).bind ((mix ops V a0 listed).tmps[·]?) = some (V e.on) := by
          show (dstOf ops e.on).bind _ = _
          rw [hdd]; exact h1
        rw [this]
        unfold boolOf
        cases V e.on <;> rfl)
      (fun t ht => mixL_out _ _ fun j hj d hdd => by
        intro he
        subst he
        unfold isDst at ht
        rw [List.any_eq_false] at ht
        have := ht j hj
        simp [hdd] at this)
    unfold wpOp
    rw [ho]
    rcases hstep with ⟨hw1, hg⟩ | ⟨hw0, hv⟩
    · simp only [hw1, if_true]
      refine .inl ?_
      unfold Oper.wp
      rcases hg with ⟨v, x', hg, hv, hb⟩ | ⟨f, args, hg, hc⟩
      · rw [hg, Oper.upon_value]
        exact ⟨_, by simpa using hs, (hset v).symm, hB.trans (hb.mono hB.size), hnew v x' hv hb⟩
      · rw [hg, Oper.upon_enter]
        refine hc.mono ?_
        rintro e w' ⟨v, rfl, hv, hb⟩
        exact ⟨_, by simpa using hs, (hset v).symm, hB.trans (hb.mono hB.size), hnew v w' hv hb⟩
    · simp only [hw0]
      exact ⟨_, by simpa using hs, (hset undef).symm, hB, hnew undef x hv (Below.refl _ _)⟩
  · rintro listed a x ⟨V, hs, rfl, hB, hV⟩ hall
    have : listed = Array.replicate ops.size true := by
      apply Array.ext
      · simpa using hs
      · intro k h1 h2
        have := hall k (by omega)
        simp [h1] at this
        simp [this]
    rw [this, hA V]
    exact fin V x hB fun j hj => hV j hj (by rw [this]; simp [Array.getElem?_replicate, hj])
end
end Go.Proofs.YtlkebkajdlgebaaGreat
