import Derived.Test.YtlkebkajdlgebaaGreatB13
import Derived.Test.YtlkebkajdlgebaaGreatB2
/-
  A region that draws its order, as in InvP, whose last operation stores and has no slot.
-/
namespace Go.Proofs.YtlkebkajdlgebaaGreat
open Go.RowKit
set_option linter.unusedVariables false
set_option linter.unusedSimpArgs false

section
variable {P : Program} {ops : Array Oper} {Q : Exit → Act → World → Prop}

def behindB (ops : Array Oper) (n : Nat) : Bool := match ops[n]? with
  | none => false
  | some o => o.guard.isNone && o.dst.isNone && (List.range n).all fun j => o.after.any fun e => Region.binds .any e && (e.on == j)

theorem wp_region_store {id : Nat} {a0 : Act} {w : World} (hm : P.follows .mixedOrders = true) (hbk : backB .any ops = true) (hd : distB ops = true) (hfit : fitB ops a0.tmps.size = true) (n : Nat) (hn : ops.size = n + 1) (hbeh : behindB ops n = true) (olast : Oper) (hol : ops[n]? = some olast)
    (T : Nat → Value → World → Prop) (hT : ∀ i v x y, T i v x → Below x.heap.size x y → T i v y) (w0 : World) (hw : Below w0.heap.size w0 w.drew)
    (step : ∀ (i : Nat) (o : Oper), i < n → ops[i]? = some o → ∀ (ρ : Operand → Value) (y : Nat → Option Bool) (x : World), Below w0.heap.size w0 x →
      (∀ e ∈ o.after, Region.binds .any e = true → ∀ d, dstOf ops e.on = some d → T e.on (ρ (.tmp d)) x ∧ y e.on = boolOf (ρ (.tmp d))) →
      (∀ t, isDst ops t = false → ρ t = a0.eval t) →
      (Region.wanted o y = true ∧ GivesP P ρ o (T i) x) ∨ (Region.wanted o y = false ∧ T i undef x))
    (A : (Nat → Value) → Act) (hA : ∀ V, mix ops V a0 (Array.replicate ops.size true) = A V)
    (last : ∀ (V : Nat → Value) x, Below w0.heap.size w0 x → (∀ j, j < n → T j (V j) x) → ∃ x', (execOp (A V).eval olast).run P x = .ok .skip x' ∧ Q .normal (A V) x') : (Code.region id ops true).wp P Q a0 w := by
  have hb3 : olast.guard = none ∧ olast.dst = none ∧ ∀ j, j < n → ∃ e ∈ olast.after, Region.binds .any e = true ∧ e.on = j := by
    unfold behindB at hbeh
    rw [hol] at hbeh
    simp only [Bool.and_eq_true, Option.isNone_iff_eq_none, List.all_eq_true, Array.any_eq_true'] at hbeh
    refine ⟨hbeh.1.1, hbeh.1.2, fun j hj => ?_⟩
    obtain ⟨e, he, hb, h2⟩ := hbeh.2 j (List.mem_range.2 hj)
    exact ⟨e, he, hb, by simpa using h2⟩
  have hnn : dstOf ops n = none := by unfold dstOf; rw [hol]; exact hb3.2.1
  refine wp_region_inv hm hbk (fun listed a x => listed.size = ops.size ∧ ((∃ V, listed.getD n true = false ∧ a = mix ops V a0 listed ∧ Below w0.heap.size w0 x ∧ ∀ j, j < n → listed.getD j false = true → T j (V j) x) ∨ (listed = Array.replicate ops.size true ∧ Q .normal a x))) ⟨by simp, .inl ⟨fun _ => undef, ?_, ?_, hw, ?_⟩⟩ ?_ ?_
  · simp [hn]
  · have : ∀ (l : List Nat) (a : Act), mixL ops (fun _ => undef) (Array.replicate ops.size false) l a = a := by
      intro l
      induction l with
      | nil => intro a; rfl
      | cons j l ih =>
        intro a
        show mixL ops (fun _ => undef) (Array.replicate ops.size false) l (putIf ops (fun _ => undef) (Array.replicate ops.size false) a j) = a
        rw [ih]
        unfold putIf
        rw [if_neg]
        simp [Array.getElem?_replicate]
        split <;> simp
    exact (this _ _).symm
  · intro j hj h
    have : j < ops.size := by omega
    simp [Array.getElem?_replicate, this] at h
  · rintro listed a x ⟨hs, hI⟩ i o ho hun hpre
    have hi : i < ops.size := (Array.getElem?_eq_some_iff.1 ho).1
    rcases hI with ⟨V, hln, rfl, hB, hV⟩ | ⟨rfl, _⟩
    · have hf : listed.getD i false = false := by
        have : i < listed.size := by omega
        simp [this] at hun ⊢; exact hun
      have hdo : dstOf ops i = o.dst := by unfold dstOf; rw [ho]; rfl
      by_cases hin : i < n
      · have hset : ∀ v, mix ops (fun k => if k = i then v else V k) a0 (listed.setIfInBounds i true) = (mix ops V a0 listed).put o.dst v := fun v => by
          have h1 := mix_set (V := fun k => if k = i then v else V k) (a0 := a0) hd hs hi hf
          rw [hdo] at h1
          rw [h1]
          simp only [if_true]
          congr 1
          exact mixL_congr _ _ fun j _ hj => by
            have : j ≠ i := fun e => by rw [e, hf] at hj; cases hj
            simp [this]
        have hnew : ∀ v z, T i v z → Below x.heap.size x z → ∀ j, j < n → (listed.setIfInBounds i true).getD j false = true → T j (if j = i then v else V j) z := fun v z hv hb j hj hl => by
          by_cases hji : j = i
          · subst hji; simpa using hv
          · rw [if_neg hji]
            have : listed.getD j false = true := by
              rw [getD_set_ne false (Ne.symm hji)] at hl
              exact hl
            exact hT j _ _ _ (hV j hj this) hb
        have hkn : (listed.setIfInBounds i true).getD n true = false := by
          have : i ≠ n := by omega
          rw [getD_set_ne true this]
          exact hln
        have hstep := step i o hin ho (mix ops V a0 listed).eval (yielded ops (mix ops V a0 listed).tmps) x hB
          (fun e he hb d hdd => by
            have hlt := back_spec hbk ho e he hb
            have h1 := mix_at (V := V) (a0 := a0) hd hfit hs (by omega) (hpre e he hb) hdd
            have e1 : (mix ops V a0 listed).eval (.tmp d) = V e.on := by simp [Act.eval, h1]
            rw [e1]
            refine ⟨hV e.on (by omega) (hpre e he hb), ?_⟩
            unfold yielded
            have : ((ops[e.on]?).bind (·.dst)).bind ((mix ops V a0 listed).tmps[·]?) = some (V e.on) := by
              show (dstOf ops e.on).bind _ = _
              rw [hdd]; exact h1
            rw [this]
            unfold boolOf
            cases V e.on <;> rfl)
          (fun t ht => mixL_out _ _ fun j hj d hdd => by
            intro he
            subst he
            unfold isDst at ht
            rw [List.any_eq_false] at ht
            have := ht j hj
            simp [hdd] at this)
        unfold wpOp
        rw [ho]
        rcases hstep with ⟨hw1, hg⟩ | ⟨hw0, hv⟩
        · simp only [hw1, if_true]
          refine .inl ?_
          unfold Oper.wp
          rcases hg with ⟨v, x', hg, hv, hb⟩ | ⟨f, args, hg, hc⟩
          · rw [hg, Oper.upon_value]
            exact ⟨by simpa using hs, .inl ⟨_, hkn, (hset v).symm, hB.trans (hb.mono hB.size), hnew v x' hv hb⟩⟩
          · rw [hg, Oper.upon_enter]
            refine hc.mono ?_
            rintro e w' ⟨v, rfl, hv, hb⟩
            exact ⟨by simpa using hs, .inl ⟨_, hkn, (hset v).symm, hB.trans (hb.mono hB.size), hnew v w' hv hb⟩⟩
        · simp only [hw0]
          exact ⟨by simpa using hs, .inl ⟨_, hkn, (hset undef).symm, hB, hnew undef x hv (Below.refl _ _)⟩⟩
      · obtain rfl : i = n := by omega
        obtain rfl : o = olast := by rw [hol] at ho; exact (Option.some.inj ho).symm
        have hall : ∀ j, j < i → listed.getD j false = true := fun j hj => by
          obtain ⟨e, he, hb, rfl⟩ := hb3.2.2 j hj
          exact hpre e he hb
        have hnow : listed.setIfInBounds i true = Array.replicate ops.size true := by
          apply Array.ext
          · simpa using hs
          · intro k h1 h2
            by_cases hk : i = k
            · subst hk; simp
            · have hks : k < listed.size := by simpa using h1
              have hkk : k < i := by omega
              have hal := hall k hkk
              simp [hks] at hal
              rw [Array.getElem_setIfInBounds_ne _ hk]
              · simp [hal]
              · exact hks
        have hmix : mix ops V a0 listed = A V := by
          rw [← hA V, ← hnow, mix_set hd hs hi hf, hnn]
          rfl
        obtain ⟨x', hx, hq⟩ := last V x hB fun j hj => hV j hj (hall j hj)
        rw [hmix]
        refine wpOp_of ho hb3.1 fun K hK => ?_
        unfold Oper.wp
        rw [hx, Oper.upon_skip, hb3.2.1]
        exact hK _ _ ⟨by simpa using hs, .inr ⟨hnow, hq⟩⟩
    · exfalso
      simp [hi] at hun
  · rintro listed a x ⟨hs, hI⟩ hall
    rcases hI with ⟨V, hln, _⟩ | ⟨_, hq⟩
    · have := hall n (by omega)
      rw [hln] at this
      cases this
    · exact hq
end
end Go.Proofs.YtlkebkajdlgebaaGreat

/-
  The contracts of FlowOut, the program's and the model's.
-/
namespace Go.Proofs.YtlkebkajdlgebaaGreat
open Go.RowKit
set_option linter.unusedVariables false
set_option linter.unusedSimpArgs false

theorem SpsAt.threeF {z : Bool} {x : World} {B E : Nat} {p : Option Addr} {cap : Nat} {L : List Sp} (h : SpsAt z x B E (.slice p 3 cap) L) (hL : L.length = 3) : ∃ g o, p = some ⟨g, o, none⟩ ∧ g < x.heap.size ∧ ∀ j, j < 3 → Spn x g (o + j * 3) (L.getD j noSp) := by
  obtain ⟨p1, cap1, hv1, _, hq⟩ := h
  injection hv1 with e1
  rcases hq with h0 | ⟨g, o, hp, _, hgE, hEx, _, hj⟩
  · omega
  · rw [hL] at hj
    exact ⟨g, o, e1.trans hp, by omega, hj⟩
/-- a box of a span -/
structure Sf3 (x : World) (m : Nat) (s : Sp) : Prop where
  lt : m < x.heap.size
  c0 : x.cell? ⟨m, 0, none⟩ = some (.bool s.1)
  c1 : x.cell? ⟨m, 1, none⟩ = some (.int .i64 s.2.1)
  c2 : x.cell? ⟨m, 2, none⟩ = some (.int .i64 s.2.2)
  f0 : x.frozen? ⟨m, 0, none⟩ = false
  f1 : x.frozen? ⟨m, 1, none⟩ = false
  f2 : x.frozen? ⟨m, 2, none⟩ = false
theorem Sf3.later {x y : World} {m : Nat} {s : Sp} (h : Sf3 x m s) (hb : Below x.heap.size x y) : Sf3 y m s :=
  ⟨Nat.lt_of_lt_of_le h.lt hb.size, (hb.cell (p := ⟨m, 0, none⟩) h.lt).trans h.c0, (hb.cell (p := ⟨m, 1, none⟩) h.lt).trans h.c1, (hb.cell (p := ⟨m, 2, none⟩) h.lt).trans h.c2, (hb.frozen (p := ⟨m, 0, none⟩) h.lt).trans h.f0, (hb.frozen (p := ⟨m, 1, none⟩) h.lt).trans h.f1, (hb.frozen (p := ⟨m, 2, none⟩) h.lt).trans h.f2⟩
theorem Sf3.new (x : World) (s : Sp) (t : TypeId) : Sf3 (x.alloc (.cells #[.bool s.1, .int .i64 s.2.1, .int .i64 s.2.2] t)) x.heap.size s :=
  ⟨by simp, by simp [go_sem], by simp [go_sem], by simp [go_sem], by simp [go_sem], by simp [go_sem], by simp [go_sem]⟩
def setS (x : World) (m : Nat) (s : Sp) : World := ((x.setCell ⟨m, 0, none⟩ (.bool s.1)).setCell ⟨m, 1, none⟩ (.int .i64 s.2.1)).setCell ⟨m, 2, none⟩ (.int .i64 s.2.2)
theorem Sf3.set {x : World} {m : Nat} {s t : Sp} (h : Sf3 x m s) : Sf3 (setS x m t) m t := by
  obtain ⟨n, c0, c1, c2, f0, f1, f2⟩ := h
  unfold setS
  exact ⟨by simpa using n, by simp [go_sem, *], by simp [go_sem, *], by simp [go_sem, *], by simp [go_sem, *], by simp [go_sem, *], by simp [go_sem, *]⟩
theorem below_setS {B : Nat} {w x : World} {m : Nat} {s : Sp} (h : Below B w x) (hm : B ≤ m) : Below B w (setS x m s) :=
  ((h.setCell (p := ⟨m, 0, none⟩) hm _).setCell (p := ⟨m, 1, none⟩) hm _).setCell (p := ⟨m, 2, none⟩) hm _
/-- what an instruction gives back -/
def givesF (c : List I4) (at_ : Nat) (L : List Sp) : Sp := if at_ = c.length then (true, 0, 0) else if (c.getD at_ i0).1 = 9 then L.getD (c.getD at_ i0).2.1.toNat noSp else noSp
def outFlow (P : List (List I4)) (k at_ : Int) (a : Bool) (L : List Sp) (c : Sp) : Sp := if comesF P k at_ a L c = true then givesF (P.getD k.toNat []) at_.toNat L else noSp

attribute [local go_sem] ta_set_back ta_move_back ta_ask_back ta_do_back ta_go_back ta_less_back ta_same_back ta_call_back ta_back_back ta_hold_back ta_put_back ta_get_back
theorem ta_nil_back (w : World) : Sem.run Tryz.prog (Instr.typeAssert .nilIface 130 171 true) w = .ok (.tuple #[.agg #[.int .i64 0], .bool false]) w := by kernel_rfl
attribute [local go_sem] ta_nil_back

/-- what an instruction behind its interface gives back -/
def outIns (I : I4) (L : List Sp) : Sp := if I.1 = 9 then L.getD I.2.1.toNat noSp else noSp

theorem givesF_end (c : List I4) (L : List Sp) : givesF c c.length L = (true, 0, 0) := by simp [givesF]
theorem givesF_ins (c : List I4) (L : List Sp) (n : Nat) (h : n < c.length) : givesF c n L = outIns (c.getD n i0) L := by
  have : ¬ n = c.length := by omega
  simp only [givesF, this, if_false, outIns]
theorem insOkF_kind {i : I4} {q p : Int} (h : insOkF i q p = true) : 1 ≤ i.1 ∧ i.1 ≤ 12 ∧ (i.1 = 9 → 0 ≤ i.2.1 ∧ i.2.1 ≤ 2) := by
  obtain ⟨K, a, b, c⟩ := i
  by_cases hK : 1 ≤ K ∧ K ≤ 12
  · refine ⟨hK.1, hK.2, fun h9 => ?_⟩
    simp only at h9
    subst h9
    simp [insOkF, inI] at h
    exact h.1.1
  · exfalso
    have hr : insOkF (K, a, b, c) q p = false := by
      unfold insOkF; simp only; repeat' split
      all_goals first | rfl | omega
    rw [hr] at h
    cases h
/-- where one comes by: the place, the state -/
theorem comesF_at {P : List (List I4)} {k at_ : Int} {a : Bool} {L : List Sp} {c : Sp} (h : comesF P k at_ a L c = true) : ∃ n m : Nat, k = n ∧ at_ = m ∧ n < P.length ∧ m ≤ (P.getD n []).length ∧ progOkF P = true ∧ a = true ∧ stOk true L c = true ∧ L.length = 3 := by
  simp only [comesF, Bool.and_eq_true] at h
  obtain ⟨⟨⟨h1, h2⟩, h3⟩, h4⟩ := h
  obtain ⟨n, rfl, hn, hok⟩ := hasPF_at h1
  simp only [placeF, inI, decide_eq_true_eq, Int.toNat_natCast] at h2
  subst h4
  refine ⟨n, at_.toNat, rfl, by omega, hn, by omega, hok, rfl, h3, ?_⟩
  simp [stOk] at h3
  exact h3.1.1
end Go.Proofs.YtlkebkajdlgebaaGreat

/-
  The contracts of SpanIn and havePairs, the program's and the model's.
-/
namespace Go.Proofs.YtlkebkajdlgebaaGreat
open Go.RowKit
set_option linter.unusedVariables false

set_option maxHeartbeats 600000 in
theorem both_impl (a : Bool) (al ah : Int) (b : Bool) (bl bh : Int) (w : World) : Calls Tryz.prog 115 #[.agg #[.bool a, .int .i64 al, .int .i64 ah], .agg #[.bool b, .int .i64 bl, .int .i64 bh]] w fun e w' => e = .returned (.bool (bothF a al ah b bl bh)) ∧ Below w.heap.size w w' := by
  unfold bothF
  cases ho1 : okF a al ah
  · go_enter Tryz.func115, Tryz.ntmps115
    go_wp2_with fail
    refine (ok_impl _ _ _ _ ).mono ?_
    rintro e w1 ⟨rfl, hb1⟩
    have hz1 : w.heap.size + 2 ≤ w1.heap.size := by have := hb1.size; first | omega | (simp at this; omega)
    obtain ⟨p1x0, q1x0, r1x0, f1x0, g1x0, h1x0⟩ := cell3 hb1 (w.heap.size) (by go_size)
    obtain ⟨p1x1, q1x1, r1x1, f1x1, g1x1, h1x1⟩ := cell3 hb1 (w.heap.size + 1) (by go_size)
    simp only [ho1]
    go_wp2
    go_ret
    exact ⟨ret_bool (by simp), (((Below.refl _ _).alloc (Nat.le_refl _) _).alloc (by go_size) _).trans (hb1.mono (by go_size))⟩
  · cases ho2 : okF b bl bh
    · go_enter Tryz.func115, Tryz.ntmps115
      go_wp2_with fail
      refine (ok_impl _ _ _ _ ).mono ?_
      rintro e w1 ⟨rfl, hb1⟩
      have hz1 : w.heap.size + 2 ≤ w1.heap.size := by have := hb1.size; first | omega | (simp at this; omega)
      obtain ⟨p1x0, q1x0, r1x0, f1x0, g1x0, h1x0⟩ := cell3 hb1 (w.heap.size) (by go_size)
      obtain ⟨p1x1, q1x1, r1x1, f1x1, g1x1, h1x1⟩ := cell3 hb1 (w.heap.size + 1) (by go_size)
      simp only [ho1]
      go_wp2_with fail
      refine (ok_impl _ _ _ _ ).mono ?_
      rintro e w2 ⟨rfl, hb2⟩
      have hz2 : w.heap.size + 2 ≤ w2.heap.size := by have := hb2.size; first | omega | (simp at this; omega)
      obtain ⟨p2x0, q2x0, r2x0, f2x0, g2x0, h2x0⟩ := cell3 hb2 (w.heap.size) (by go_size)
      obtain ⟨p2x1, q2x1, r2x1, f2x1, g2x1, h2x1⟩ := cell3 hb2 (w.heap.size + 1) (by go_size)
      simp only [ho2]
      go_wp2
      go_ret
      exact ⟨ret_bool (by simp), ((((Below.refl _ _).alloc (Nat.le_refl _) _).alloc (by go_size) _).trans (hb1.mono (by go_size))).trans (hb2.mono (by go_size))⟩
    · cases a
      · go_enter Tryz.func115, Tryz.ntmps115
        go_wp2_with fail
        refine (ok_impl _ _ _ _ ).mono ?_
        rintro e w1 ⟨rfl, hb1⟩
        have hz1 : w.heap.size + 2 ≤ w1.heap.size := by have := hb1.size; first | omega | (simp at this; omega)
        obtain ⟨p1x0, q1x0, r1x0, f1x0, g1x0, h1x0⟩ := cell3 hb1 (w.heap.size) (by go_size)
        obtain ⟨p1x1, q1x1, r1x1, f1x1, g1x1, h1x1⟩ := cell3 hb1 (w.heap.size + 1) (by go_size)
        simp only [ho1]
        go_wp2_with fail
        refine (ok_impl _ _ _ _ ).mono ?_
        rintro e w2 ⟨rfl, hb2⟩
        have hz2 : w.heap.size + 2 ≤ w2.heap.size := by have := hb2.size; first | omega | (simp at this; omega)
        obtain ⟨p2x0, q2x0, r2x0, f2x0, g2x0, h2x0⟩ := cell3 hb2 (w.heap.size) (by go_size)
        obtain ⟨p2x1, q2x1, r2x1, f2x1, g2x1, h2x1⟩ := cell3 hb2 (w.heap.size + 1) (by go_size)
        simp only [ho2]
        go_wp2
        go_ret
        exact ⟨ret_bool (by simp), ((((Below.refl _ _).alloc (Nat.le_refl _) _).alloc (by go_size) _).trans (hb1.mono (by go_size))).trans (hb2.mono (by go_size))⟩
      · go_enter Tryz.func115, Tryz.ntmps115
        go_wp2_with fail
        refine (ok_impl _ _ _ _ ).mono ?_
        rintro e w1 ⟨rfl, hb1⟩
        have hz1 : w.heap.size + 2 ≤ w1.heap.size := by have := hb1.size; first | omega | (simp at this; omega)
        obtain ⟨p1x0, q1x0, r1x0, f1x0, g1x0, h1x0⟩ := cell3 hb1 (w.heap.size) (by go_size)
        obtain ⟨p1x1, q1x1, r1x1, f1x1, g1x1, h1x1⟩ := cell3 hb1 (w.heap.size + 1) (by go_size)
        simp only [ho1]
        go_wp2_with fail
        refine (ok_impl _ _ _ _ ).mono ?_
        rintro e w2 ⟨rfl, hb2⟩
        have hz2 : w.heap.size + 2 ≤ w2.heap.size := by have := hb2.size; first | omega | (simp at this; omega)
        obtain ⟨p2x0, q2x0, r2x0, f2x0, g2x0, h2x0⟩ := cell3 hb2 (w.heap.size) (by go_size)
        obtain ⟨p2x1, q2x1, r2x1, f2x1, g2x1, h2x1⟩ := cell3 hb2 (w.heap.size + 1) (by go_size)
        simp only [ho2]
        go_wp2
        go_ret
        exact ⟨ret_bool (by simp), ((((Below.refl _ _).alloc (Nat.le_refl _) _).alloc (by go_size) _).trans (hb1.mono (by go_size))).trans (hb2.mono (by go_size))⟩

end Go.Proofs.YtlkebkajdlgebaaGreat
