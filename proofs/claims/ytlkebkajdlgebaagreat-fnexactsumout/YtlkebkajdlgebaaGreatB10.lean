import Derived.Test.YtlkebkajdlgebaaGreatB9
import Derived.Test.YtlkebkajdlgebaaGreatB8
import Derived.WalkKit
import Derived.Orders
/-
  That an instruction fits and has no needless numbers is that it is ok.
-/
namespace Go.Proofs.YtlkebkajdlgebaaGreat
open Go.RowKit
set_option linter.unusedVariables false
set_option linter.unusedSimpArgs false

/-- whether an instruction fits into a room -/
def fitsF (i : I4) (p q : Int) : Bool :=
  let a := inI i.2.1 0 2
  let b := inI i.2.2.1 0 2
  let c := inI i.2.2.2 0 2
  if i.1 = 1 then a && inI i.2.2.1 (-16) 15
  else if i.1 = 3 then a && inI i.2.2.1 (-16) 15 && decide (0 ≤ i.2.2.1)
  else if i.1 = 2 ∨ i.1 = 11 ∨ i.1 = 12 then (a && b)
  else if i.1 = 4 then (a && b) && inI i.2.2.2 1 6
  else if i.1 = 5 then inI i.2.2.2 0 q
  else if i.1 = 6 ∨ i.1 = 7 then (a && b) && inI i.2.2.2 0 q
  else if i.1 = 8 then (a && c) && inI i.2.2.1 0 (p - 1)
  else a

theorem rest_A (a b c : Int) : restF ⟨#[65]⟩ a b c = (decide (b = 0) && decide (c = 0)) := by
  have h : (⟨#[65]⟩ : ByteArray).size = 1 := rfl
  unfold restF; rw [h, Bool.eq_iff_iff]
  simp [zF]
theorem rest_C (a b c : Int) : restF ⟨#[67]⟩ a b c = (decide (a = 0) && decide (b = 0)) := by
  have h : (⟨#[67]⟩ : ByteArray).size = 1 := rfl
  unfold restF; rw [h, Bool.eq_iff_iff]
  simp [zF]
theorem rest_AB (a b c : Int) : restF ⟨#[65, 66]⟩ a b c = decide (c = 0) := by
  have h : (⟨#[65, 66]⟩ : ByteArray).size = 2 := rfl
  unfold restF; rw [h, Bool.eq_iff_iff]
  simp [zF]
theorem rest_ABC (a b c : Int) : restF ⟨#[65, 66, 67]⟩ a b c = true := by
  have h : (⟨#[65, 66, 67]⟩ : ByteArray).size = 3 := rfl
  unfold restF; rw [h]
  simp [zF]

theorem fits_ok (i : I4) (p q : Int) (h1 : 1 ≤ i.1) (h2 : i.1 ≤ 12) : (fitsF i p q && restF (lettersF i.1) i.2.1 i.2.2.1 i.2.2.2) = insOkF i q p := by
  obtain ⟨K, a, b, c⟩ := i
  simp only at h1 h2
  obtain rfl | rfl | rfl | rfl | rfl | rfl | rfl | rfl | rfl | rfl | rfl | rfl : K = 1 ∨ K = 2 ∨ K = 3 ∨ K = 4 ∨ K = 5 ∨ K = 6 ∨ K = 7 ∨ K = 8 ∨ K = 9 ∨ K = 10 ∨ K = 11 ∨ K = 12 := by omega
  all_goals
    rw [Bool.eq_iff_iff]
    simp [fitsF, insOkF, lettersF, rest_A, rest_C, rest_AB, rest_ABC, inI]
    try omega
end Go.Proofs.YtlkebkajdlgebaaGreat

/-
  A region that draws its order, by a condition on what has come up: one step an operation, whatever the order.
-/
namespace Go.Proofs.YtlkebkajdlgebaaGreat
open Go.RowKit
set_option linter.unusedVariables false
set_option linter.unusedSimpArgs false

theorem cnt_lt {p q : Nat → Bool} {i : Nat} : ∀ (l : List Nat), i ∈ l → p i = true → q i = false → (∀ j, q j = true → p j = true) → l.countP q < l.countP p
  | [], h, _, _, _ => by cases h
  | x :: l, h, hp, hq, hle => by
    have hmono : l.countP q ≤ l.countP p := List.countP_mono_left fun j _ hj => hle j hj
    rcases List.mem_cons.1 h with rfl | h'
    · rw [List.countP_cons, List.countP_cons, hp, hq]; simp; omega
    · have := cnt_lt l h' hp hq hle
      rw [List.countP_cons, List.countP_cons]
      have hx := hle x
      cases hqx : q x
      · simp; omega
      · rw [hx hqx]; simp; omega

section
variable {P : Program} {ops : Array Oper} {Q : Exit → Act → World → Prop} {md : Region.Mode}

def backB (md : Region.Mode) (ops : Array Oper) : Bool :=
  (List.range ops.size).all fun i => ((ops[i]?).map (·.after.all fun e => !Region.binds md e || decide (e.on < i))).getD true

theorem back_spec (h : backB md ops = true) {i : Nat} {o : Oper} (ho : ops[i]? = some o) (e : _) (he : e ∈ o.after) (hb : Region.binds md e = true) : e.on < i := by
  unfold backB at h
  rw [List.all_eq_true] at h
  have hi : i < ops.size := (Array.getElem?_eq_some_iff.1 ho).1
  have h1 := h i (List.mem_range.2 hi)
  rw [ho] at h1
  simp only [Option.map_some, Option.getD_some, Array.all_eq_true_iff_forall_mem] at h1
  have h2 := h1 e he
  simpa [hb] using h2

theorem all_listed (h : backB md ops = true) {listed : Array Bool} (hs : listed.size = ops.size) (hr : Region.ready md ops listed = []) :
    ∀ n i, i < n → i < ops.size → listed.getD i true = true
  | 0, _, h0, _ => by omega
  | n + 1, i, hin, hi => by
    cases hl : listed.getD i true
    · exfalso
      have : i ∈ Region.ready md ops listed := by
        rw [mem_ready]
        refine ⟨hl, ops[i], Array.getElem?_eq_getElem hi, fun e he hb => ?_⟩
        have hlt := back_spec h (Array.getElem?_eq_getElem hi) e he hb
        have h2 := all_listed h hs hr n e.on (by omega) (by omega)
        have h3 : e.on < listed.size := by omega
        simp [h3] at h2 ⊢
        exact h2
      rw [hr] at this
      cases this
    · rfl

theorem wpAny_inv (hbk : backB md ops = true) (I : Array Bool → Act → World → Prop)
    (step : ∀ listed a w, I listed a w → ∀ i o, ops[i]? = some o → listed.getD i true = false → (∀ e ∈ o.after, Region.binds md e = true → listed.getD e.on false = true) → wpOp P ops Q i (I (listed.setIfInBounds i true)) a w)
    (fin : ∀ listed a w, I listed a w → (∀ i, i < ops.size → listed.getD i true = true) → Q .normal a w) :
    ∀ (fuel : Nat) (listed : Array Bool) (a : Act) (w : World), listed.size = ops.size → (List.range ops.size).countP (fun i => !listed.getD i true) ≤ fuel → I listed a w → wpAny P md ops Q fuel listed a w
  | 0, listed, a, w, hs, hc, hI => by
    have hall : ∀ i, i < ops.size → listed.getD i true = true := fun i hi => by
      have h0 : (List.range ops.size).countP (fun i => !listed.getD i true) = 0 := by omega
      rw [List.countP_eq_zero] at h0
      have := h0 i (List.mem_range.2 hi)
      simpa using this
    refine ⟨?_, fin _ _ _ hI hall⟩
    unfold Region.ready
    rw [List.filter_eq_nil_iff]
    intro i hi
    rw [hall i (List.mem_range.1 hi)]
    simp
  | fuel + 1, listed, a, w, hs, hc, hI => by
    refine ⟨fun hr => fin _ _ _ hI fun i hi => all_listed hbk hs hr (i + 1) i (by omega) hi, fun i hi => ?_⟩
    obtain ⟨hun, o, ho, hpre⟩ := mem_ready.1 hi
    refine wpOp_mono (fun a' w' h' => wpAny_inv hbk I step fin fuel _ a' w' (by simpa using hs) ?_ h') (step _ _ _ hI i o ho hun hpre)
    have hi' : i < ops.size := (Array.getElem?_eq_some_iff.1 ho).1
    have hlt := cnt_lt (p := fun j => !listed.getD j true) (q := fun j => !(listed.setIfInBounds i true).getD j true) (i := i) (List.range ops.size) (List.mem_range.2 hi') (by simp only [hun]; rfl) (by
      have : i < listed.size := by omega
      simp [this]) (fun j hj => by
        by_cases hij : i = j
        · subst hij
          have : i < listed.size := by omega
          simp [this] at hj
        · simp only [getD_set_ne true hij] at hj; exact hj)
    omega

theorem wp_region_inv {id : Nat} {a : Act} {w : World} (hm : P.follows .mixedOrders = true) (hbk : backB .any ops = true) (I : Array Bool → Act → World → Prop)
    (start : I (Array.replicate ops.size false) a w.drew)
    (step : ∀ listed a w, I listed a w → ∀ i o, ops[i]? = some o → listed.getD i true = false → (∀ e ∈ o.after, Region.binds .any e = true → listed.getD e.on false = true) → wpOp P ops Q i (I (listed.setIfInBounds i true)) a w)
    (fin : ∀ listed a w, I listed a w → (∀ i, i < ops.size → listed.getD i true = true) → Q .normal a w) : (Code.region id ops true).wp P Q a w :=
  wp_region_any hm (wpAny_inv hbk I step fin _ _ _ _ (by simp) (by
    have := List.countP_le_length (p := fun i => !(Array.replicate ops.size false).getD i true) (l := List.range ops.size)
    simpa using this) start)

theorem wpOp_of {i : Nat} {o : Oper} {a : Act} {w : World} {J : Act → World → Prop} (ho : ops[i]? = some o) (hg : o.guard = none)
    (h : ∀ K : Act → World → Prop, (∀ a' w', J a' w' → K a' w') → o.wp P a w K Q) : wpOp P ops Q i J a w := by
  unfold wpOp
  rw [ho]
  have hw : Region.wanted o (yielded ops a.tmps) = true := by unfold Region.wanted; rw [hg]
  simp only [hw, if_true]
  exact .inl (h J fun _ _ q => q)
end

end Go.Proofs.YtlkebkajdlgebaaGreat

/-
  A region that draws its order, makes no memory of its own and leaves in each slot one value whatever the order.
-/
namespace Go.Proofs.YtlkebkajdlgebaaGreat
open Go.RowKit
set_option linter.unusedVariables false
set_option linter.unusedSimpArgs false

section
variable {P : Program} {ops : Array Oper} {Q : Exit → Act → World → Prop}

def dstOf (ops : Array Oper) (j : Nat) : Option Tmp := (ops[j]?).bind (·.dst)
def putIf (ops : Array Oper) (V : Nat → Value) (listed : Array Bool) (a : Act) (j : Nat) : Act := if listed.getD j false = true then a.put (dstOf ops j) (V j) else a
def mixL (ops : Array Oper) (V : Nat → Value) (listed : Array Bool) (l : List Nat) (a : Act) : Act := l.foldl (putIf ops V listed) a
def distB (ops : Array Oper) : Bool :=
  (List.range ops.size).all fun i => (List.range ops.size).all fun j => decide (i = j) || (match dstOf ops i with | some d => !(dstOf ops j == some d) | none => true)
def fitB (ops : Array Oper) (n : Nat) : Bool := (List.range ops.size).all fun i => match dstOf ops i with | some d => decide (d < n) | none => true
def isDst (ops : Array Oper) (t : Operand) : Bool := (List.range ops.size).any fun i => match dstOf ops i with | some d => (match t with | .tmp k => k == d | _ => false) | none => false
def boolOf (v : Value) : Option Bool := match v with | .bool b => some b | _ => none

theorem dist_spec (h : distB ops = true) {i j : Nat} (hi : i < ops.size) (hj : j < ops.size) (hij : i ≠ j) (d : Tmp) (hd : dstOf ops i = some d) : dstOf ops j ≠ some d := by
  unfold distB at h
  rw [List.all_eq_true] at h
  have h1 := h i (List.mem_range.2 hi)
  rw [List.all_eq_true] at h1
  have h2 := h1 j (List.mem_range.2 hj)
  simp [hij, hd] at h2
  exact h2

theorem mixL_comm {V : Nat → Value} {listed : Array Bool} {x : Option Tmp} {v : Value} : ∀ (l : List Nat) (a : Act), (∀ j ∈ l, ∀ d, x = some d → dstOf ops j ≠ some d) → mixL ops V listed l (a.put x v) = (mixL ops V listed l a).put x v
  | [], a, _ => rfl
  | j :: l, a, h => by
    show mixL ops V listed l (putIf ops V listed (a.put x v) j) = (mixL ops V listed l (putIf ops V listed a j)).put x v
    have hj := h j (by simp)
    have hl := fun k hk => h k (List.mem_cons_of_mem _ hk)
    unfold putIf
    split
    · rw [Act.put_comm a v (V j) hj]; exact mixL_comm l _ hl
    · exact mixL_comm l _ hl

theorem mixL_same {V : Nat → Value} {listed : Array Bool} {i : Nat} {b : Bool} : ∀ (l : List Nat) (a : Act), i ∉ l → mixL ops V (listed.setIfInBounds i b) l a = mixL ops V listed l a
  | [], a, _ => rfl
  | j :: l, a, h => by
    have hij : i ≠ j := fun e => h (by simp [e])
    show mixL ops V (listed.setIfInBounds i b) l (putIf ops V (listed.setIfInBounds i b) a j) = mixL ops V listed l (putIf ops V listed a j)
    have : putIf ops V (listed.setIfInBounds i b) a j = putIf ops V listed a j := by
      unfold putIf; rw [show (listed.setIfInBounds i b).getD j false = listed.getD j false by simp [Array.getElem?_setIfInBounds_ne hij]]
    rw [this]
    exact mixL_same l _ fun hk => h (List.mem_cons_of_mem _ hk)

theorem mixL_set {V : Nat → Value} {listed : Array Bool} {i : Nat} (hs : i < listed.size) (hf : listed.getD i false = false) : ∀ (l : List Nat) (a : Act), l.Nodup → i ∈ l → (∀ j ∈ l, j ≠ i → ∀ d, dstOf ops i = some d → dstOf ops j ≠ some d) →
      mixL ops V (listed.setIfInBounds i true) l a = (mixL ops V listed l a).put (dstOf ops i) (V i)
  | [], a, _, h, _ => by cases h
  | j :: l, a, hn, hi, hd => by
    obtain ⟨hj, hn'⟩ := List.nodup_cons.1 hn
    by_cases hij : j = i
    · subst hij
      show mixL ops V (listed.setIfInBounds j true) l (putIf ops V (listed.setIfInBounds j true) a j) = (mixL ops V listed l (putIf ops V listed a j)).put (dstOf ops j) (V j)
      rw [mixL_same l _ hj]
      have e1 : putIf ops V (listed.setIfInBounds j true) a j = a.put (dstOf ops j) (V j) := by unfold putIf; rw [if_pos (by simp [hs])]
      have e2 : putIf ops V listed a j = a := by unfold putIf; rw [hf]; simp
      rw [e1, e2]
      exact mixL_comm l a fun k hk d hd' => hd k (List.mem_cons_of_mem _ hk) (fun e => hj (e ▸ hk)) d hd'
    · have hi' : i ∈ l := by rcases List.mem_cons.1 hi with e | e; exact absurd e.symm hij; exact e
      show mixL ops V (listed.setIfInBounds i true) l (putIf ops V (listed.setIfInBounds i true) a j) = (mixL ops V listed l (putIf ops V listed a j)).put (dstOf ops i) (V i)
      have : putIf ops V (listed.setIfInBounds i true) a j = putIf ops V listed a j := by
        unfold putIf; rw [getD_set_ne false (Ne.symm hij)]
      rw [this]
      exact mixL_set hs hf l _ hn' hi' fun k hk => hd k (List.mem_cons_of_mem _ hk)

theorem mixL_out {V : Nat → Value} {listed : Array Bool} {t : Operand} : ∀ (l : List Nat) (a : Act), (∀ j ∈ l, ∀ d, dstOf ops j = some d → t ≠ .tmp d) → (mixL ops V listed l a).eval t = a.eval t
  | [], a, _ => rfl
  | j :: l, a, h => by
    show (mixL ops V listed l (putIf ops V listed a j)).eval t = a.eval t
    rw [mixL_out l _ fun k hk => h k (List.mem_cons_of_mem _ hk)]
    unfold putIf
    split
    · exact Act.eval_put (h j (by simp))
    · rfl

theorem put_size (a : Act) (x : Option Tmp) (v : Value) : (a.put x v).tmps.size = a.tmps.size := by cases x <;> simp [Act.put]
theorem mixL_size {V : Nat → Value} {listed : Array Bool} : ∀ (l : List Nat) (a : Act), (mixL ops V listed l a).tmps.size = a.tmps.size
  | [], a => rfl
  | j :: l, a => by
    show (mixL ops V listed l (putIf ops V listed a j)).tmps.size = a.tmps.size
    rw [mixL_size l]
    unfold putIf
    split
    · exact put_size _ _ _
    · rfl

def mix (ops : Array Oper) (V : Nat → Value) (a0 : Act) (listed : Array Bool) : Act := mixL ops V listed (List.range ops.size) a0

theorem mix_set (hd : distB ops = true) {V : Nat → Value} {a0 : Act} {listed : Array Bool} (hs : listed.size = ops.size) {i : Nat} (hi : i < ops.size) (hf : listed.getD i false = false) :
    mix ops V a0 (listed.setIfInBounds i true) = (mix ops V a0 listed).put (dstOf ops i) (V i) :=
  mixL_set (by omega) hf _ _ List.nodup_range (List.mem_range.2 hi) fun j hj hji d hd' => dist_spec hd hi (List.mem_range.1 hj) (Ne.symm hji) d hd'

theorem mix_at (hd : distB ops = true) {V : Nat → Value} {a0 : Act} (hfit : fitB ops a0.tmps.size = true) {listed : Array Bool} (hs : listed.size = ops.size) {j : Nat} (hj : j < ops.size) (ht : listed.getD j false = true) {d : Tmp} (hdj : dstOf ops j = some d) :
    (mix ops V a0 listed).tmps[d]? = some (V j) := by
  have hjs : j < listed.size := by omega
  have e : listed = (listed.setIfInBounds j false).setIfInBounds j true := by
    apply Array.ext
    · simp
    · intro k h1 h2
      by_cases hk : j = k
      · subst hk; simp [hjs] at ht ⊢; exact ht
      · rw [Array.getElem_setIfInBounds_ne _ hk, Array.getElem_setIfInBounds_ne _ hk]
        simpa using h1
  have hlt : d < a0.tmps.size := by
    unfold fitB at hfit
    rw [List.all_eq_true] at hfit
    have := hfit j (List.mem_range.2 hj)
    rw [hdj] at this
    simpa using this
  rw [e, mix_set hd (by simpa using hs) hj (by simp [hjs]), hdj]
  have hsz : (mix ops V a0 (listed.setIfInBounds j false)).tmps.size = a0.tmps.size := mixL_size _ _
  simp [Act.put, hsz, hlt]

/-- operation o, its operands being read by ρ, gives v at world x -/
def Gives (P : Program) (ρ : Operand → Value) (o : Oper) (v : Value) (x : World) : Prop :=
  (execOp ρ o).run P x = .ok (.value v) x ∨ ∃ f args, (execOp ρ o).run P x = .ok (.enter f args) x ∧ Calls P f args x fun e w' => e = .returned v ∧ Below x.heap.size x w'

theorem Gives.val {ρ : Operand → Value} {o : Oper} {v : Value} {x : World} (h : (execOp ρ o).run P x = .ok (.value v) x) : Gives P ρ o v x := .inl h
theorem Gives.call {ρ : Operand → Value} {o : Oper} {v : Value} {x : World} {f : FuncId} {args : Array Value} (hc : Calls P f args x fun e w' => e = .returned v ∧ Below x.heap.size x w') (h : (execOp ρ o).run P x = .ok (.enter f args) x) : Gives P ρ o v x := .inr ⟨f, args, h, hc⟩

theorem wp_region_vals {id : Nat} {a0 : Act} {w : World} (hm : P.follows .mixedOrders = true) (hbk : backB .any ops = true) (hd : distB ops = true) (hfit : fitB ops a0.tmps.size = true) (V : Nat → Value) (w0 : World) (hw : Below w0.heap.size w0 w.drew)
    (step : ∀ i o, ops[i]? = some o → ∀ (ρ : Operand → Value) (y : Nat → Option Bool) (x : World), Below w0.heap.size w0 x →
      (∀ e ∈ o.after, Region.binds .any e = true → (∀ d, dstOf ops e.on = some d → ρ (.tmp d) = V e.on) ∧ (∀ d, dstOf ops e.on = some d → y e.on = boolOf (V e.on))) →
      (∀ t, isDst ops t = false → ρ t = a0.eval t) →
      (Region.wanted o y = true ∧ Gives P ρ o (V i) x) ∨ (Region.wanted o y = false ∧ V i = undef))
    (A1 : Act) (hA1 : mix ops V a0 (Array.replicate ops.size true) = A1)
    (fin : ∀ x, Below w0.heap.size w0 x → Q .normal A1 x) : (Code.region id ops true).wp P Q a0 w := by
  refine wp_region_inv hm hbk (fun listed a x => listed.size = ops.size ∧ a = mix ops V a0 listed ∧ Below w0.heap.size w0 x) ⟨by simp, ?_, hw⟩ ?_ ?_
  · have : ∀ (l : List Nat) (a : Act), mixL ops V (Array.replicate ops.size false) l a = a := by
      intro l
      induction l with
      | nil => intro a; rfl
      | cons j l ih =>
        intro a
        show mixL ops V (Array.replicate ops.size false) l (putIf ops V (Array.replicate ops.size false) a j) = a
        rw [ih]
        unfold putIf
        rw [if_neg]
        simp [Array.getElem?_replicate]
        split <;> simp
    exact (this _ _).symm
  · rintro listed a x ⟨hs, rfl, hB⟩ i o ho hun hpre
    have hi : i < ops.size := (Array.getElem?_eq_some_iff.1 ho).1
    have hf : listed.getD i false = false := by
      have : i < listed.size := by omega
      simp [this] at hun ⊢; exact hun
    have hdo : dstOf ops i = o.dst := by unfold dstOf; rw [ho]; rfl
    have hset := mix_set (V := V) (a0 := a0) hd hs hi hf
    rw [hdo] at hset
    have hdep : ∀ e ∈ o.after, Region.binds .any e = true → ∀ d, dstOf ops e.on = some d → (mix ops V a0 listed).tmps[d]? = some (V e.on) := fun e he hb d hdd => by
      have hlt := back_spec hbk ho e he hb
      exact mix_at hd hfit hs (by omega) (hpre e he hb) hdd
    have hstep := step i o ho (mix ops V a0 listed).eval (yielded ops (mix ops V a0 listed).tmps) x hB
      (fun e he hb => ⟨fun d hdd => by
          have := hdep e he hb d hdd
          simp [Act.eval, this],
        fun d hdd => by
          have h1 := hdep e he hb d hdd
          have h2 : yielded ops (mix ops V a0 listed).tmps e.on = boolOf (V e.on) := by
            unfold yielded
            have : ((ops[e.on]?).bind (·.dst)).bind ((mix ops V a0 listed).tmps[·]?) = some (V e.on) := by
              show (dstOf ops e.on).bind _ = _
              rw [hdd]; exact h1
            rw [this]
            unfold boolOf
            cases V e.on <;> rfl
          exact h2⟩)
      (fun t ht => mixL_out _ _ fun j hj d hdd => by
        intro he
        subst he
        unfold isDst at ht
        rw [List.any_eq_false] at ht
        have := ht j hj
        simp [hdd] at this)
    unfold wpOp
    rw [ho]
    rcases hstep with ⟨hw1, hg⟩ | ⟨hw0, hv⟩
    · simp only [hw1, if_true]
      refine .inl ?_
      unfold Oper.wp
      rcases hg with hg | ⟨f, args, hg, hc⟩
      · rw [hg, Oper.upon_value]
        exact ⟨by simpa using hs, hset.symm, hB⟩
      · rw [hg, Oper.upon_enter]
        refine hc.mono ?_
        rintro e w' ⟨rfl, hb⟩
        exact ⟨by simpa using hs, hset.symm, hB.trans (hb.mono hB.size)⟩
    · simp only [hw0]
      exact ⟨by simpa using hs, by rw [hset, hv], hB⟩
  · rintro listed a x ⟨hs, rfl, hB⟩ hall
    have : listed = Array.replicate ops.size true := by
      apply Array.ext
      · simpa using hs
      · intro k h1 h2
        have := hall k (by omega)
        simp [h1] at this
        simp [this]
    rw [this, hA1]
    exact fin x hB
end
end Go.Proofs.YtlkebkajdlgebaaGreat
