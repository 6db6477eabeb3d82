import Derived.Test.YtbjegekfghihkaaB28
import Derived.Test.YtbjegekfghihkaaB1
import Derived.Deep.Slices
import Derived.Deep.Strs
import Derived.Lib.SmallJoins
import Derived.WideShapes
/-
  The walk of the exact law of FlowCalls.
-/
namespace Go.Proofs.Ytbjegekfghihkaa
open Go.RowKit
set_option linter.unusedVariables false
set_option linter.unusedSimpArgs false

theorem ProgAt.lowerS {x : World} {B C : Nat} {v : Value} {P : List (List I4)} (h : ProgAt x B v P) (hc : C ≤ B) : ProgAt x C v P := by
  obtain ⟨p, cap, hv, hm, hq⟩ := h
  refine ⟨p, cap, hv, hm, hq.imp id ?_⟩
  rintro ⟨g, o, hp, hB, hg, hj⟩
  exact ⟨g, o, hp, by omega, hg, fun j h => by obtain ⟨u, hu, hcu⟩ := hj j h; exact ⟨u, hu, hcu.lower hc⟩⟩
/-- a state whose spans lie somewhere -/
def StW (a : Bool) (L : List Sp) (c : Bool) (l u : Int) (v : Value) (x : World) : Prop := ∃ s B E, v = .agg #[.bool a, s, .bool c, .int .i64 l, .int .i64 u] ∧ SpsAt true x B E s L
theorem StW.later {a : Bool} {L : List Sp} {c : Bool} {l u : Int} {v : Value} {x y : World} (h : StW a L c l u v x) (hb : Below x.heap.size x y) : StW a L c l u v y := by
  obtain ⟨s, B, E, e, hs⟩ := h
  exact ⟨s, B, E, e, hs.later hb⟩
theorem StW.of {a : Bool} {L : List Sp} {c : Bool} {l u : Int} {e : Ending} {x y : World} (h : ∃ v', e = .returned (.agg #[.bool a, v', .bool c, .int .i64 l, .int .i64 u]) ∧ SpsAt true y x.heap.size y.heap.size v' L ∧ Below x.heap.size x y) : ∃ v, e = .returned v ∧ StW a L c l u v y ∧ Below x.heap.size x y := by
  obtain ⟨v', he, hs, hb⟩ := h
  exact ⟨_, he, ⟨v', _, _, rfl, hs⟩, hb⟩
theorem Bx5.inW {x y : World} {B E m : Nat} {v0 v1 v2 v3 v4 : Value} (h : Bx5 x m v0 v1 v2 v3 v4) (hw : Within B E x y) (hm : m < B ∨ E ≤ m) : Bx5 y m v0 v1 v2 v3 v4 :=
  ⟨by rw [← hw.sz]; exact h.lt, (hw.cell _ _ hm).trans h.c0, (hw.cell _ _ hm).trans h.c1, (hw.cell _ _ hm).trans h.c2, (hw.cell _ _ hm).trans h.c3, (hw.cell _ _ hm).trans h.c4, fun k => (hw.frozen _ _).trans (h.fz k)⟩
theorem SpsAt.inW {z : Bool} {x y : World} {B E C D : Nat} {v : Value} {L : List Sp} (h : SpsAt z x C D v L) (hw : Within B E x y) (hd : D ≤ B ∨ E ≤ C) : SpsAt z y C D v L :=
  h.stay (by rw [hw.sz]; exact Nat.le_refl _) fun g o h1 h2 => ⟨hw.cell _ _ (by omega), hw.frozen _ _⟩

set_option maxRecDepth 100000 in
set_option maxHeartbeats 8000000 in
theorem exactFlowCalls_walk (s0 : Option Addr) (n0 cap0 : Nat) (P : List (List I4)) (k at_ : Int) (a : Bool) (sv : Value) (L : List Sp) (c : Bool) (l u : Int) (w : World) (hP : ProgAt w 0 (.slice s0 n0 cap0) P) (hk : (Lit.int .i64 k).wf = true) (hat : (Lit.int .i64 at_).wf = true) (hS : SpsAt false w 0 w.heap.size sv L) :
    Calls Try.prog 3 #[.slice s0 n0 cap0, .int .i64 k, .int .i64 at_, .agg #[.bool a, sv, .bool c, .int .i64 l, .int .i64 u]] w fun e w' => e = .returned (.bool true) ∧ Below w.heap.size w w' := by
  obtain ⟨ps, cs, rfl⟩ := hS.shape
  have HM : Hid (L.length ≤ maxLen) := by obtain ⟨_, _, _, hm, _⟩ := hS; exact hm
  have HP : Hid (ProgAt w 0 (.slice s0 n0 cap0) P) := hP
  have HS : Hid (SpsAt false w 0 w.heap.size (.slice ps L.length cs) L) := hS
  clear hP hS hk hat
  go_enter Try.func3, Try.ntmps3
  go_wp2_with fail
  generalize hX : w.alloc (.cells #[.bool a, .slice ps L.length cs, .bool c, .int .i64 l, .int .i64 u] 27) = X
  have HXB : Hid (Below w.heap.size w X) := by show Below w.heap.size w X; rw [← hX]; exact (Below.refl _ _).alloc (Nat.le_refl _) _
  have HXX : Hid (Bx5 X w.heap.size (.bool a) (.slice ps L.length cs) (.bool c) (.int .i64 l) (.int .i64 u)) := by show Bx5 _ _ _ _ _ _ _; rw [← hX]; exact Bx5.new _ _ _ _ _ _ _
  clear hX
  refine (szProcS_any _ 0 _ P (HP.out.later HXB.out)).mono ?_
  rintro e w1 ⟨r, rfl, hr, hr1, hb1⟩
  have HR : Hid (0 ≤ r → P.length ≤ 1048576 ∧ ∀ j, j < P.length → (P.getD j []).length ≤ 1048576) := hr
  have HB1 : Hid (Below w.heap.size w w1) := HXB.out.trans (hb1.mono HXB.out.size)
  have HX1 : Hid (Bx5 w1 w.heap.size (.bool a) (.slice ps L.length cs) (.bool c) (.int .i64 l) (.int .i64 u)) := HXX.out.later hb1
  clear hr hb1 HXB HXX
  by_cases hneg : r < 0
  · go_wp2_with fail
    go_ret
    exact ⟨rfl, HB1.out⟩
  have HN : Hid (P.length ≤ 1048576 ∧ ∀ j, j < P.length → (P.getD j []).length ≤ 1048576) := HR.out (by omega)
  have h0r : 0 ≤ r := by omega
  clear HR
  have x1 := HX1.out
  obtain ⟨_, b0, b1, b2, b3, b4, _⟩ := x1
  go_wp2_with fail
  refine (szState_any a ps L.length cs c l u r _ h0r hr1 HM.out).mono ?_
  rintro e w2 ⟨rfl, hb2⟩
  have HB2 : Hid (Below w.heap.size w w2) := HB1.out.trans (hb2.mono HB1.out.size)
  have HX2 : Hid (Bx5 w2 w.heap.size (.bool a) (.slice ps L.length cs) (.bool c) (.int .i64 l) (.int .i64 u)) := HX1.out.later hb2
  clear hb2 HB1 HX1 b0 b1 b2 b3 b4
  by_cases hneg2 : r - (L.length : Int) < 0
  · rw [if_pos hneg2]
    go_wp2_with fail
    go_ret
    exact ⟨rfl, HB2.out⟩
  rw [if_neg hneg2]
  have HLN : Hid (L.length ≤ 1048576) := by show L.length ≤ 1048576; omega
  clear HM h0r hr1
  have HF : Hid (∀ (z : World) (v : Value), ProgAt z 0 v P → ∀ (s : Value) (B E : Nat), SpsAt true z B E s L → Calls Try.prog 8 #[v, .int .i64 k, .int .i64 at_, .agg #[.bool a, s, .bool c, .int .i64 l, .int .i64 u]] z fun e y => ∃ r, e = .returned r ∧ IRow 2 true y z.heap.size y.heap.size r (callsK P k at_ a L (c, l, u)).length (callN (callsB P k at_) (callsK P k at_ a L (c, l, u))) ∧ Below z.heap.size z y) :=
    fun z v hp s B E hs => flowCalls_spec z 0 v P hp k at_ true B E a s L c l u hs
  have HFI : Hid (∀ (z : World) (v : Value) (D : Nat), ProgAt z D v P → ∀ (s : Value) (B E : Nat), SpsAt true z B E s L → Calls Try.prog 11 #[v, .int .i64 k, .int .i64 at_, .agg #[.bool a, s, .bool c, .int .i64 l, .int .i64 u]] z fun e y => ∃ r, e = .returned r ∧ IRow 2 true y z.heap.size y.heap.size r (callsK P k at_ a L (c, l, u)).length (callN (callsB P k at_) (callsK P k at_ a L (c, l, u))) ∧ Below z.heap.size z y) :=
    fun z v D hp s B E hs => flowCalls_impl z D v P hp k at_ true B E a s L c l u hs
  have hS3 := callsK_len P k at_ a L (c, l, u)
  generalize callN (callsB P k at_) (callsK P k at_ a L (c, l, u)) = N at HF HFI
  generalize (callsK P k at_ a L (c, l, u)).length = S at HF HFI hS3
  have HS3 : Hid (S ≤ 3) := hS3
  clear hS3
  go_wp2_with fail
  refine wp_region_preds (by kernel_rfl) (by kernel_rfl) (by kernel_rfl) (by kernel_rfl) (fun j => [(fun v _ => v = .slice s0 n0 cap0), (fun v x => ProgAt x 0 v P), (fun v _ => v = .int .i64 k), (fun v _ => v = .int .i64 at_), (fun v _ => v = .agg #[.bool a, .slice ps L.length cs, .bool c, .int .i64 l, .int .i64 u]), (fun v x => StW a L c l u v x), (fun v x => IRow 2 true x w2.heap.size x.heap.size v S N), (fun v x => IRow 2 true x w2.heap.size x.heap.size v S N)].getD j (fun _ _ => True)) ?stable w2 ((Below.refl _ _).drew) ?step (fun V => ⟨List.toArray ((.slice s0 n0 cap0) :: (.int .i64 k) :: (.int .i64 at_) :: (.agg #[.bool a, .slice ps L.length cs, .bool c, .int .i64 l, .int .i64 u]) :: (undef) :: (undef) :: (undef) :: (.pointer (some ⟨w.heap.size, 0, none⟩)) :: (.bool false) :: (.int .i64 (r - ↑L.length)) :: (V 7) :: (undef) :: (undef) :: (undef) :: (undef) :: (undef) :: (undef) :: (undef) :: (.slice s0 n0 cap0) :: (.int .i64 1048576) :: (.int .i64 r) :: (.int .i64 r) :: (.bool (decide (r < 0))) :: (.agg #[.bool a, .slice ps L.length cs, .bool c, .int .i64 l, .int .i64 u]) :: (.int .i64 r) :: (.int .i64 (r - ↑L.length)) :: (.int .i64 (r - ↑L.length)) :: (.bool (decide (r - ↑L.length < 0))) :: (V 0) :: (V 1) :: (V 2) :: (V 3) :: (V 4) :: (V 5) :: (V 6) :: (undef) :: (undef) :: (undef) :: (undef) :: (undef) :: (undef) :: (undef) :: (undef) :: (undef) :: (undef) :: (undef) :: (undef) :: (undef) :: (undef) :: (undef) :: (undef) :: (undef) :: (undef) :: (undef) :: (undef) :: (undef) :: (undef) :: (undef) :: (undef) :: (undef) :: (undef) :: (undef) :: (undef) :: (undef) :: (undef) :: (undef) :: (undef) :: (undef) :: (undef) :: (undef) :: (undef) :: (undef) :: (undef) :: (undef) :: (undef) :: (undef) :: (undef) :: (undef) :: (undef) :: (undef) :: (undef) :: (undef) :: (undef) :: (undef) :: (undef) :: (undef) :: (undef) :: (undef) :: (undef) :: (undef) :: (undef) :: (undef) :: (undef) :: (undef) :: (undef) :: (undef) :: (undef) :: (undef) :: (undef) :: (undef) :: (undef) :: (undef) :: []), []⟩) (fun V => by kernel_rfl) ?last
  case stable =>
    intro i v x y ht hb
    rcases i with _ | i
    · exact ht
    rcases i with _ | i
    · exact (ProgAt.later ht hb)
    rcases i with _ | i
    · exact ht
    rcases i with _ | i
    · exact ht
    rcases i with _ | i
    · exact ht
    rcases i with _ | i
    · exact (StW.later ht hb)
    rcases i with _ | i
    · exact ((IRow.later ht hb).wide (Nat.le_refl _) hb.size (Nat.le_refl _))
    rcases i with _ | i
    · exact ((IRow.later ht hb).wide (Nat.le_refl _) hb.size (Nat.le_refl _))
    exact trivial
  case step =>
    intro i o ho ρ y x hBx hdep hout
    rcases i with _ | i
    · obtain rfl := Option.some.inj ho
      have o0 : ρ (.tmp 0) = .slice s0 n0 cap0 := hout (.tmp 0) rfl
      have ocn : ∀ v, ρ (.const v) = v := fun v => hout (.const v) rfl
      have ofn : ∀ f, ρ (.func f) = .func (.func f) #[] #[] := fun f => hout (.func f) rfl
      clear hdep hout
      refine .inl ⟨rfl, ?_⟩
      show GivesP _ _ _ (fun v _ => v = .slice s0 n0 cap0) _
      refine GivesP.val (.slice s0 n0 cap0) rfl ?_
      go_simp
    rcases i with _ | i
    · obtain rfl := Option.some.inj ho
      have e0 : ρ (.tmp 28) = .slice s0 n0 cap0 := (hdep ⟨0, .data⟩ (by simp) rfl 28 rfl).1
      have ocn : ∀ v, ρ (.const v) = v := fun v => hout (.const v) rfl
      have ofn : ∀ f, ρ (.func f) = .func (.func f) #[] #[] := fun f => hout (.func f) rfl
      clear hdep hout
      refine .inl ⟨rfl, ?_⟩
      show GivesP _ _ _ (fun v x => ProgAt x 0 v P) _
      refine GivesP.call ((toProcS_any x 0 _ P ((HP.out.later HB2.out).later hBx) HN.out.1 HN.out.2).mono fun e w9 h9 => ⟨h9.choose, h9.choose_spec.1, h9.choose_spec.2.1.lowerS (Nat.zero_le _), h9.choose_spec.2.2⟩) ?_
      go_simp
    rcases i with _ | i
    · obtain rfl := Option.some.inj ho
      have o1 : ρ (.tmp 1) = .int .i64 k := hout (.tmp 1) rfl
      have ocn : ∀ v, ρ (.const v) = v := fun v => hout (.const v) rfl
      have ofn : ∀ f, ρ (.func f) = .func (.func f) #[] #[] := fun f => hout (.func f) rfl
      clear hdep hout
      refine .inl ⟨rfl, ?_⟩
      show GivesP _ _ _ (fun v _ => v = .int .i64 k) _
      refine GivesP.val (.int .i64 k) rfl ?_
      go_simp
    rcases i with _ | i
    · obtain rfl := Option.some.inj ho
      have o2 : ρ (.tmp 2) = .int .i64 at_ := hout (.tmp 2) rfl
      have ocn : ∀ v, ρ (.const v) = v := fun v => hout (.const v) rfl
      have ofn : ∀ f, ρ (.func f) = .func (.func f) #[] #[] := fun f => hout (.func f) rfl
      clear hdep hout
      refine .inl ⟨rfl, ?_⟩
      show GivesP _ _ _ (fun v _ => v = .int .i64 at_) _
      refine GivesP.val (.int .i64 at_) rfl ?_
      go_simp
    rcases i with _ | i
    · obtain rfl := Option.some.inj ho
      have o7 : ρ (.tmp 7) = .pointer (some ⟨w.heap.size, 0, none⟩) := hout (.tmp 7) rfl
      have ocn : ∀ v, ρ (.const v) = v := fun v => hout (.const v) rfl
      have ofn : ∀ f, ρ (.func f) = .func (.func f) #[] #[] := fun f => hout (.func f) rfl
      clear hdep hout
      refine .inl ⟨rfl, ?_⟩
      obtain ⟨_, b0, b1, b2, b3, b4, _⟩ := HX2.out.later hBx
      show GivesP _ _ _ (fun v _ => v = .agg #[.bool a, .slice ps L.length cs, .bool c, .int .i64 l, .int .i64 u]) _
      refine GivesP.val (.agg #[.bool a, .slice ps L.length cs, .bool c, .int .i64 l, .int .i64 u]) rfl ?_
      go_simp
    rcases i with _ | i
    · obtain rfl := Option.some.inj ho
      have e4 : ρ (.tmp 32) = .agg #[.bool a, .slice ps L.length cs, .bool c, .int .i64 l, .int .i64 u] := (hdep ⟨4, .data⟩ (by simp) rfl 32 rfl).1
      have ocn : ∀ v, ρ (.const v) = v := fun v => hout (.const v) rfl
      have ofn : ∀ f, ρ (.func f) = .func (.func f) #[] #[] := fun f => hout (.func f) rfl
      clear hdep hout
      refine .inl ⟨rfl, ?_⟩
      show GivesP _ _ _ (fun v x => StW a L c l u v x) _
      refine GivesP.call ((toState_any x false 0 w.heap.size a _ L c l u ((HS.out.later HB2.out).later hBx) HLN.out).mono fun e w9 h9 => StW.of h9) ?_
      go_simp
    rcases i with _ | i
    · obtain rfl := Option.some.inj ho
      have t1 := (hdep ⟨1, .data⟩ (by simp) rfl 29 rfl).1
      have t1 : (fun v x => ProgAt x 0 v P) (ρ (.tmp 29)) x := t1
      obtain t1 := t1
      have e2 : ρ (.tmp 30) = .int .i64 k := (hdep ⟨2, .data⟩ (by simp) rfl 30 rfl).1
      have e3 : ρ (.tmp 31) = .int .i64 at_ := (hdep ⟨3, .data⟩ (by simp) rfl 31 rfl).1
      have t5 := (hdep ⟨5, .data⟩ (by simp) rfl 33 rfl).1
      have t5 : (fun v x => StW a L c l u v x) (ρ (.tmp 33)) x := t5
      obtain ⟨q5, B5, E5, e5, k5⟩ := t5
      have ocn : ∀ v, ρ (.const v) = v := fun v => hout (.const v) rfl
      have ofn : ∀ f, ρ (.func f) = .func (.func f) #[] #[] := fun f => hout (.func f) rfl
      clear hdep hout
      refine .inl ⟨rfl, ?_⟩
      show GivesP _ _ _ (fun v x => IRow 2 true x w2.heap.size x.heap.size v S N) _
      refine GivesP.call ((HF.out x _ t1 _ B5 E5 k5).mono fun e w9 h9 => ⟨h9.choose, h9.choose_spec.1, h9.choose_spec.2.1.wide hBx.size (Nat.le_refl _) (Nat.le_refl _), h9.choose_spec.2.2⟩) ?_
      go_simp
    rcases i with _ | i
    · obtain rfl := Option.some.inj ho
      have t6 := (hdep ⟨6, .data⟩ (by simp) rfl 34 rfl).1
      have t6 : (fun v x => IRow 2 true x w2.heap.size x.heap.size v S N) (ρ (.tmp 34)) x := t6
      obtain t6 := t6
      have ocn : ∀ v, ρ (.const v) = v := fun v => hout (.const v) rfl
      have ofn : ∀ f, ρ (.func f) = .func (.func f) #[] #[] := fun f => hout (.func f) rfl
      clear hdep hout
      refine .inl ⟨rfl, ?_⟩
      show GivesP _ _ _ (fun v x => IRow 2 true x w2.heap.size x.heap.size v S N) _
      exact GivesP.val _ t6 (by go_simp)
    cases ho
  case last =>
    intro V w3 hBx hV
    have t7 := hV 7 (by simp)
    have t7 : (fun v x => IRow 2 true x w2.heap.size x.heap.size v S N) (V 7) w3 := t7
    obtain t7 := t7
    clear hV
    have hB3 := HB2.out.trans (hBx.mono HB2.out.size)
    obtain ⟨v10, hv10⟩ : ∃ v, V 7 = v := ⟨_, rfl⟩
    rw [hv10]
    rw [hv10] at t7
    have HB_w3 : Hid (Below w.heap.size w w3) := hB3
    have HX_w3 : Hid (Bx5 w3 w.heap.size (.bool a) (.slice ps L.length cs) (.bool c) (.int .i64 l) (.int .i64 u)) := HX2.out.later hBx
    have HR_w3 : Hid (IRow 2 true w3 w2.heap.size w3.heap.size v10 S N) := t7
    have hw2 : w.heap.size ≤ w2.heap.size := HB2.out.size
    have hXlt : w.heap.size < w2.heap.size := HX2.out.lt
    have hw3 : w2.heap.size ≤ w3.heap.size := hBx.size
    clear hB3 hv10 t7 HB2 HX2 hBx
    go_wp2_with fail
    refine (toProcS_free _ 0 _ P (HP.out.later HB_w3.out) HN.out.1 HN.out.2).mono ?_
    rintro e w4 ⟨u4, rfl, hP4, hb4⟩
    have hw4 : w3.heap.size ≤ w4.heap.size := hb4.size
    have HB_w4 : Hid (Below w.heap.size w w4) := HB_w3.out.trans (hb4.mono HB_w3.out.size)
    have HX_w4 : Hid (Bx5 w4 w.heap.size (.bool a) (.slice ps L.length cs) (.bool c) (.int .i64 l) (.int .i64 u)) := HX_w3.out.later hb4
    have HR_w4 : Hid (IRow 2 true w4 w2.heap.size w3.heap.size v10 S N) := HR_w3.out.later hb4
    clear HB_w3 HX_w3 HR_w3 hb4
    have HF1_w4 : Hid (FreeP w4 w3.heap.size w4.heap.size u4 P) := hP4
    clear hP4
    have x_HXw4 := HX_w4.out
    obtain ⟨_, b0, b1, b2, b3, b4, _⟩ := x_HXw4
    go_wp2_with fail
    refine (toState_any _ false 0 w.heap.size a _ L c l u (HS.out.later HB_w4.out) HLN.out).mono ?_
    rintro e w5 ⟨v5, rfl, hS5, hb5⟩
    obtain ⟨p5, cap5, rfl⟩ := hS5.shape
    have hw5 : w4.heap.size ≤ w5.heap.size := hb5.size
    have HB_w5 : Hid (Below w.heap.size w w5) := HB_w4.out.trans (hb5.mono HB_w4.out.size)
    have HX_w5 : Hid (Bx5 w5 w.heap.size (.bool a) (.slice ps L.length cs) (.bool c) (.int .i64 l) (.int .i64 u)) := HX_w4.out.later hb5
    have HR_w5 : Hid (IRow 2 true w5 w2.heap.size w3.heap.size v10 S N) := HR_w4.out.later hb5
    have HF1_w5 : Hid (FreeP w5 w3.heap.size w4.heap.size u4 P) := HF1_w4.out.later hb5
    clear HB_w4 HX_w4 HR_w4 HF1_w4 hb5
    have HS1_w5 : Hid (SpsAt true w5 w4.heap.size w5.heap.size (.slice p5 L.length cap5) L) := hS5
    clear hS5 b0 b1 b2 b3 b4
    go_wp2_with fail
    generalize hY : w5.alloc (.cells #[.bool a, .slice p5 L.length cap5, .bool c, .int .i64 l, .int .i64 u] 37) = w6
    have hYB : Below w5.heap.size w5 w6 := by rw [← hY]; exact (Below.refl _ _).alloc (Nat.le_refl _) _
    have HK1_w6 : Hid (Bx5 w6 w5.heap.size (.bool a) (.slice p5 L.length cap5) (.bool c) (.int .i64 l) (.int .i64 u)) := by show Bx5 _ _ _ _ _ _ _; rw [← hY]; exact Bx5.new _ _ _ _ _ _ _
    have hw6 : w5.heap.size < w6.heap.size := by rw [← hY]; simp
    clear hY
    have HB_w6 : Hid (Below w.heap.size w w6) := HB_w5.out.trans (hYB.mono HB_w5.out.size)
    have HX_w6 : Hid (Bx5 w6 w.heap.size (.bool a) (.slice ps L.length cs) (.bool c) (.int .i64 l) (.int .i64 u)) := HX_w5.out.later hYB
    have HR_w6 : Hid (IRow 2 true w6 w2.heap.size w3.heap.size v10 S N) := HR_w5.out.later hYB
    have HF1_w6 : Hid (FreeP w6 w3.heap.size w4.heap.size u4 P) := HF1_w5.out.later hYB
    have HS1_w6 : Hid (SpsAt true w6 w4.heap.size w5.heap.size (.slice p5 L.length cap5) L) := HS1_w5.out.later hYB
    clear HB_w5 HX_w5 HR_w5 HF1_w5 HS1_w5 hYB
    refine (HFI.out w6 _ w3.heap.size (HF1_w6.out.prog (by have := HN.out.1; unfold maxLen; omega)) _ w4.heap.size w5.heap.size HS1_w6.out).mono ?_
    rintro e w7 ⟨v13, rfl, hG7, hb7⟩
    have hw7 : w6.heap.size ≤ w7.heap.size := hb7.size
    have HB_w7 : Hid (Below w.heap.size w w7) := HB_w6.out.trans (hb7.mono HB_w6.out.size)
    have HX_w7 : Hid (Bx5 w7 w.heap.size (.bool a) (.slice ps L.length cs) (.bool c) (.int .i64 l) (.int .i64 u)) := HX_w6.out.later hb7
    have HR_w7 : Hid (IRow 2 true w7 w2.heap.size w3.heap.size v10 S N) := HR_w6.out.later hb7
    have HF1_w7 : Hid (FreeP w7 w3.heap.size w4.heap.size u4 P) := HF1_w6.out.later hb7
    have HS1_w7 : Hid (SpsAt true w7 w4.heap.size w5.heap.size (.slice p5 L.length cap5) L) := HS1_w6.out.later hb7
    have HK1_w7 : Hid (Bx5 w7 w5.heap.size (.bool a) (.slice p5 L.length cap5) (.bool c) (.int .i64 l) (.int .i64 u)) := HK1_w6.out.later hb7
    clear HB_w6 HX_w6 HR_w6 HF1_w6 HS1_w6 HK1_w6 hb7
    have HG_w7 : Hid (IRow 2 true w7 w6.heap.size w7.heap.size v13 S N) := hG7
    clear hG7
    go_wp2_with fail
    refine (eqCallS_any w7 true true _ _ _ _ v13 v10 S N HG_w7.out HR_w7.out).mono ?_
    rintro e w8 ⟨rfl, hb8⟩
    have HB_w8 : Hid (Below w.heap.size w w8) := HB_w7.out.trans (hb8.mono HB_w7.out.size)
    have HX_w8 : Hid (Bx5 w8 w.heap.size (.bool a) (.slice ps L.length cs) (.bool c) (.int .i64 l) (.int .i64 u)) := HX_w7.out.later hb8
    have HR_w8 : Hid (IRow 2 true w8 w2.heap.size w3.heap.size v10 S N) := HR_w7.out.later hb8
    have HF1_w8 : Hid (FreeP w8 w3.heap.size w4.heap.size u4 P) := HF1_w7.out.later hb8
    have HS1_w8 : Hid (SpsAt true w8 w4.heap.size w5.heap.size (.slice p5 L.length cap5) L) := HS1_w7.out.later hb8
    have HK1_w8 : Hid (Bx5 w8 w5.heap.size (.bool a) (.slice p5 L.length cap5) (.bool c) (.int .i64 l) (.int .i64 u)) := HK1_w7.out.later hb8
    have HG_w8 : Hid (IRow 2 true w8 w6.heap.size w7.heap.size v13 S N) := HG_w7.out.later hb8
    clear HB_w7 HX_w7 HR_w7 HF1_w7 HS1_w7 HK1_w7 HG_w7 hb8
    go_wp2_with fail
    refine (toProcS_any _ 0 _ P (HP.out.later HB_w8.out) HN.out.1 HN.out.2).mono ?_
    rintro e w9 ⟨u9, rfl, hP9, hb9⟩
    have HB_w9 : Hid (Below w.heap.size w w9) := HB_w8.out.trans (hb9.mono HB_w8.out.size)
    have HX_w9 : Hid (Bx5 w9 w.heap.size (.bool a) (.slice ps L.length cs) (.bool c) (.int .i64 l) (.int .i64 u)) := HX_w8.out.later hb9
    have HR_w9 : Hid (IRow 2 true w9 w2.heap.size w3.heap.size v10 S N) := HR_w8.out.later hb9
    have HF1_w9 : Hid (FreeP w9 w3.heap.size w4.heap.size u4 P) := HF1_w8.out.later hb9
    have HS1_w9 : Hid (SpsAt true w9 w4.heap.size w5.heap.size (.slice p5 L.length cap5) L) := HS1_w8.out.later hb9
    have HK1_w9 : Hid (Bx5 w9 w5.heap.size (.bool a) (.slice p5 L.length cap5) (.bool c) (.int .i64 l) (.int .i64 u)) := HK1_w8.out.later hb9
    have HG_w9 : Hid (IRow 2 true w9 w6.heap.size w7.heap.size v13 S N) := HG_w8.out.later hb9
    clear HB_w8 HX_w8 HR_w8 HF1_w8 HS1_w8 HK1_w8 HG_w8 hb9
    go_wp2_with fail
    refine (eqProcS_same w9 _ _ u4 u9 P (HF1_w9.out.prog (by have := HN.out.1; unfold maxLen; omega)) hP9).mono ?_
    rintro e wa ⟨rfl, hba⟩
    clear hP9
    have HB_wa : Hid (Below w.heap.size w wa) := HB_w9.out.trans (hba.mono HB_w9.out.size)
    have HX_wa : Hid (Bx5 wa w.heap.size (.bool a) (.slice ps L.length cs) (.bool c) (.int .i64 l) (.int .i64 u)) := HX_w9.out.later hba
    have HR_wa : Hid (IRow 2 true wa w2.heap.size w3.heap.size v10 S N) := HR_w9.out.later hba
    have HF1_wa : Hid (FreeP wa w3.heap.size w4.heap.size u4 P) := HF1_w9.out.later hba
    have HS1_wa : Hid (SpsAt true wa w4.heap.size w5.heap.size (.slice p5 L.length cap5) L) := HS1_w9.out.later hba
    have HK1_wa : Hid (Bx5 wa w5.heap.size (.bool a) (.slice p5 L.length cap5) (.bool c) (.int .i64 l) (.int .i64 u)) := HK1_w9.out.later hba
    have HG_wa : Hid (IRow 2 true wa w6.heap.size w7.heap.size v13 S N) := HG_w9.out.later hba
    clear HB_w9 HX_w9 HR_w9 HF1_w9 HS1_w9 HK1_w9 HG_w9 hba
    go_wp2_with fail
    refine wp_region_preds (by kernel_rfl) (by kernel_rfl) (by kernel_rfl) (by kernel_rfl) (fun j => [(fun v _ => v = .agg #[.bool a, .slice p5 L.length cap5, .bool c, .int .i64 l, .int .i64 u]), (fun v _ => v = .agg #[.bool a, .slice ps L.length cs, .bool c, .int .i64 l, .int .i64 u]), (fun v x => StW a L c l u v x), (fun v _ => v = .bool true), (fun v _ => v = .bool false)].getD j (fun _ _ => True)) ?stable wa ((Below.refl _ _).drew) ?step (fun U => ⟨List.toArray ((.slice s0 n0 cap0) :: (.int .i64 k) :: (.int .i64 at_) :: (.agg #[.bool a, .slice ps L.length cs, .bool c, .int .i64 l, .int .i64 u]) :: (undef) :: (undef) :: (undef) :: (.pointer (some ⟨w.heap.size, 0, none⟩)) :: (.bool false) :: (.int .i64 (r - ↑L.length)) :: (v10) :: (u4) :: (.pointer (some ⟨w5.heap.size, 0, none⟩)) :: (v13) :: (undef) :: (undef) :: (undef) :: (undef) :: (.slice s0 n0 cap0) :: (.int .i64 1048576) :: (.int .i64 r) :: (.int .i64 r) :: (.bool (decide (r < 0))) :: (.agg #[.bool a, .slice ps L.length cs, .bool c, .int .i64 l, .int .i64 u]) :: (.int .i64 r) :: (.int .i64 (r - ↑L.length)) :: (.int .i64 (r - ↑L.length)) :: (.bool (decide (r - ↑L.length < 0))) :: (V 0) :: (V 1) :: (V 2) :: (V 3) :: (V 4) :: (V 5) :: (V 6) :: (.slice s0 n0 cap0) :: (u4) :: (.agg #[.bool a, .slice ps L.length cs, .bool c, .int .i64 l, .int .i64 u]) :: (.agg #[.bool a, .slice p5 L.length cap5, .bool c, .int .i64 l, .int .i64 u]) :: (u4) :: (.int .i64 k) :: (.int .i64 at_) :: (.agg #[.bool a, .slice p5 L.length cap5, .bool c, .int .i64 l, .int .i64 u]) :: (v13) :: (v13) :: (v10) :: (.bool true) :: (.bool false) :: (u4) :: (.slice s0 n0 cap0) :: (u9) :: (.bool true) :: (.bool false) :: (U 0) :: (U 1) :: (U 2) :: (U 3) :: (U 4) :: (undef) :: (undef) :: (undef) :: (undef) :: (undef) :: (undef) :: (undef) :: (undef) :: (undef) :: (undef) :: (undef) :: (undef) :: (undef) :: (undef) :: (undef) :: (undef) :: (undef) :: (undef) :: (undef) :: (undef) :: (undef) :: (undef) :: (undef) :: (undef) :: (undef) :: (undef) :: (undef) :: (undef) :: (undef) :: (undef) :: (undef) :: (undef) :: (undef) :: (undef) :: (undef) :: (undef) :: (undef) :: (undef) :: (undef) :: (undef) :: (undef) :: (undef) :: (undef) :: (undef) :: []), []⟩) (fun U => by kernel_rfl) ?last
    case stable =>
      intro i v x y ht hb
      rcases i with _ | i
      · exact ht
      rcases i with _ | i
      · exact ht
      rcases i with _ | i
      · exact (StW.later ht hb)
      rcases i with _ | i
      · exact ht
      rcases i with _ | i
      · exact ht
      exact trivial
    case step =>
      intro i o ho ρ y x hBx hdep hout
      rcases i with _ | i
      · obtain rfl := Option.some.inj ho
        have o12 : ρ (.tmp 12) = .pointer (some ⟨w5.heap.size, 0, none⟩) := hout (.tmp 12) rfl
        have ocn : ∀ v, ρ (.const v) = v := fun v => hout (.const v) rfl
        have ofn : ∀ f, ρ (.func f) = .func (.func f) #[] #[] := fun f => hout (.func f) rfl
        clear hdep hout
        refine .inl ⟨rfl, ?_⟩
        obtain ⟨_, b0, b1, b2, b3, b4, _⟩ := HK1_wa.out.later hBx
        show GivesP _ _ _ (fun v _ => v = .agg #[.bool a, .slice p5 L.length cap5, .bool c, .int .i64 l, .int .i64 u]) _
        refine GivesP.val (.agg #[.bool a, .slice p5 L.length cap5, .bool c, .int .i64 l, .int .i64 u]) rfl ?_
        go_simp
      rcases i with _ | i
      · obtain rfl := Option.some.inj ho
        have o7 : ρ (.tmp 7) = .pointer (some ⟨w.heap.size, 0, none⟩) := hout (.tmp 7) rfl
        have ocn : ∀ v, ρ (.const v) = v := fun v => hout (.const v) rfl
        have ofn : ∀ f, ρ (.func f) = .func (.func f) #[] #[] := fun f => hout (.func f) rfl
        clear hdep hout
        refine .inl ⟨rfl, ?_⟩
        obtain ⟨_, b0, b1, b2, b3, b4, _⟩ := HX_wa.out.later hBx
        show GivesP _ _ _ (fun v _ => v = .agg #[.bool a, .slice ps L.length cs, .bool c, .int .i64 l, .int .i64 u]) _
        refine GivesP.val (.agg #[.bool a, .slice ps L.length cs, .bool c, .int .i64 l, .int .i64 u]) rfl ?_
        go_simp
      rcases i with _ | i
      · obtain rfl := Option.some.inj ho
        have e1 : ρ (.tmp 54) = .agg #[.bool a, .slice ps L.length cs, .bool c, .int .i64 l, .int .i64 u] := (hdep ⟨1, .data⟩ (by simp) rfl 54 rfl).1
        have ocn : ∀ v, ρ (.const v) = v := fun v => hout (.const v) rfl
        have ofn : ∀ f, ρ (.func f) = .func (.func f) #[] #[] := fun f => hout (.func f) rfl
        clear hdep hout
        refine .inl ⟨rfl, ?_⟩
        show GivesP _ _ _ (fun v x => StW a L c l u v x) _
        refine GivesP.call ((toState_any x false 0 w.heap.size a _ L c l u ((HS.out.later HB_wa.out).later hBx) HLN.out).mono fun e w9 h9 => StW.of h9) ?_
        go_simp
      rcases i with _ | i
      · obtain rfl := Option.some.inj ho
        have e0 : ρ (.tmp 53) = .agg #[.bool a, .slice p5 L.length cap5, .bool c, .int .i64 l, .int .i64 u] := (hdep ⟨0, .data⟩ (by simp) rfl 53 rfl).1
        have t2 := (hdep ⟨2, .data⟩ (by simp) rfl 55 rfl).1
        have t2 : (fun v x => StW a L c l u v x) (ρ (.tmp 55)) x := t2
        obtain ⟨q2, B2, E2, e2, k2⟩ := t2
        have ocn : ∀ v, ρ (.const v) = v := fun v => hout (.const v) rfl
        have ofn : ∀ f, ρ (.func f) = .func (.func f) #[] #[] := fun f => hout (.func f) rfl
        clear hdep hout
        refine .inl ⟨rfl, ?_⟩
        show GivesP _ _ _ (fun v _ => v = .bool true) _
        refine GivesP.call ((eqState_same x true true w4.heap.size w5.heap.size B2 E2 a _ q2 L c l u (HS1_wa.out.later hBx) k2).mono fun e w9 h9 => ⟨_, h9.1, rfl, h9.2⟩) ?_
        go_simp
      rcases i with _ | i
      · obtain rfl := Option.some.inj ho
        have e3 : ρ (.tmp 56) = .bool true := (hdep ⟨3, .data⟩ (by simp) rfl 56 rfl).1
        have ocn : ∀ v, ρ (.const v) = v := fun v => hout (.const v) rfl
        have ofn : ∀ f, ρ (.func f) = .func (.func f) #[] #[] := fun f => hout (.func f) rfl
        clear hdep hout
        refine .inl ⟨rfl, ?_⟩
        show GivesP _ _ _ (fun v _ => v = .bool false) _
        refine GivesP.val (.bool false) rfl ?_
        go_simp
      cases ho
    case last =>
      intro U wb hBx hV
      have e4 : U 4 = .bool false := hV 4 (by simp)
      clear hV
      rw [e4]
      have HB_wb : Hid (Below w.heap.size w wb) := HB_wa.out.trans (hBx.mono HB_wa.out.size)
      have HX_wb : Hid (Bx5 wb w.heap.size (.bool a) (.slice ps L.length cs) (.bool c) (.int .i64 l) (.int .i64 u)) := HX_wa.out.later hBx
      have HR_wb : Hid (IRow 2 true wb w2.heap.size w3.heap.size v10 S N) := HR_wa.out.later hBx
      have HF1_wb : Hid (FreeP wb w3.heap.size w4.heap.size u4 P) := HF1_wa.out.later hBx
      have HS1_wb : Hid (SpsAt true wb w4.heap.size w5.heap.size (.slice p5 L.length cap5) L) := HS1_wa.out.later hBx
      have HK1_wb : Hid (Bx5 wb w5.heap.size (.bool a) (.slice p5 L.length cap5) (.bool c) (.int .i64 l) (.int .i64 u)) := HK1_wa.out.later hBx
      have HG_wb : Hid (IRow 2 true wb w6.heap.size w7.heap.size v13 S N) := HG_wa.out.later hBx
      clear HB_wa HX_wa HR_wa HF1_wa HS1_wa HK1_wa HG_wa hBx
      go_wp2_with fail
      refine (markProcS_any wb _ _ u4 P HF1_wb.out HN.out.1 HN.out.2 1 (by omega) (by omega)).mono ?_
      rintro e wc ⟨K, rfl, hK0, hK1, hWc⟩
      have HB_wc : Hid (Below w.heap.size w wc) := HB_wb.out.trans (hWc.below.mono (by omega))
      have HX_wc : Hid (Bx5 wc w.heap.size (.bool a) (.slice ps L.length cs) (.bool c) (.int .i64 l) (.int .i64 u)) := HX_wb.out.inW hWc (by omega)
      have HR_wc : Hid (IRow 2 true wc w2.heap.size w3.heap.size v10 S N) := HR_wb.out.within hWc (by omega)
      have HS1_wc : Hid (SpsAt true wc w4.heap.size w5.heap.size (.slice p5 L.length cap5) L) := HS1_wb.out.inW hWc (by omega)
      have HK1_wc : Hid (Bx5 wc w5.heap.size (.bool a) (.slice p5 L.length cap5) (.bool c) (.int .i64 l) (.int .i64 u)) := HK1_wb.out.inW hWc (by omega)
      have HG_wc : Hid (IRow 2 true wc w6.heap.size w7.heap.size v13 S N) := HG_wb.out.within hWc (by omega)
      clear HB_wb HX_wb HR_wb HS1_wb HK1_wb HG_wb
      clear HF1_wb hWc
      have x_HK1wc := HK1_wc.out
      obtain ⟨_, b0, b1, b2, b3, b4, _⟩ := x_HK1wc
      go_wp2_with fail
      refine (markState_any wc _ _ a _ (c, l, u) L K HS1_wc.out HLN.out hK0 (by omega)).mono ?_
      rintro e wd ⟨rfl, hSd, hWd⟩
      have hAl : Below wc.heap.size wc (wc.alloc (.cells #[.bool a, .slice p5 L.length cap5, .bool c, .int .i64 l, .int .i64 u] 37)) := (Below.refl _ _).alloc (Nat.le_refl _) _
      clear b0 b1 b2 b3 b4 HK1_wc HS1_wc hSd
      have HB_wd : Hid (Below w.heap.size w wd) := (HB_wc.out.trans (hAl.mono HB_wc.out.size)).trans (hWd.below.mono (by omega))
      have HX_wd : Hid (Bx5 wd w.heap.size (.bool a) (.slice ps L.length cs) (.bool c) (.int .i64 l) (.int .i64 u)) := (HX_wc.out.later hAl).inW hWd (by omega)
      have HR_wd : Hid (IRow 2 true wd w2.heap.size w3.heap.size v10 S N) := (HR_wc.out.later hAl).within hWd (by omega)
      have HG_wd : Hid (IRow 2 true wd w6.heap.size w7.heap.size v13 S N) := (HG_wc.out.later hAl).within hWd (by omega)
      clear HB_wc HX_wc HR_wc HG_wc hAl hWd
      have hKn : ¬ (K + 3 * (L.length : Int) < 0) := by omega
      generalize hKK : K + 3 * (L.length : Int) = K2 at hKn ⊢
      clear hKK hK0 hK1
      go_wp2_with fail
      refine (eqCallS_any wd true true _ _ _ _ v13 v10 S N HG_wd.out HR_wd.out).mono ?_
      rintro e we ⟨rfl, hbe⟩
      have HB_we : Hid (Below w.heap.size w we) := HB_wd.out.trans (hbe.mono HB_wd.out.size)
      have HX_we : Hid (Bx5 we w.heap.size (.bool a) (.slice ps L.length cs) (.bool c) (.int .i64 l) (.int .i64 u)) := HX_wd.out.later hbe
      have HR_we : Hid (IRow 2 true we w2.heap.size w3.heap.size v10 S N) := HR_wd.out.later hbe
      have HG_we : Hid (IRow 2 true we w6.heap.size w7.heap.size v13 S N) := HG_wd.out.later hbe
      clear HB_wd HX_wd HR_wd HG_wd hbe
      go_wp2_with fail
      refine (markCallS_all we _ _ v13 S N 1 HG_we.out (by have := HS3.out; omega) (by omega) (by omega)).mono ?_
      rintro e wf ⟨rfl, hMf, hWf⟩
      have HM_wf : Hid (IRow 2 true wf w6.heap.size w7.heap.size v13 S (fun j => 1 + (j : Int))) := hMf
      have HB_wf : Hid (Below w.heap.size w wf) := HB_we.out.trans (hWf.below.mono (by omega))
      have HX_wf : Hid (Bx5 wf w.heap.size (.bool a) (.slice ps L.length cs) (.bool c) (.int .i64 l) (.int .i64 u)) := HX_we.out.inW hWf (by omega)
      have HR_wf : Hid (IRow 2 true wf w2.heap.size w3.heap.size v10 S N) := HR_we.out.within hWf (by omega)
      clear HB_we HX_we HR_we
      clear hMf hWf HG_we
      have HH : Hid (∀ z : World, IRow 2 true z w6.heap.size w7.heap.size v13 S (fun j => 1 + (j : Int)) → Calls Try.prog 18 #[v13, .int .i64 1] z fun e y => e = .returned (.int .i64 (1 + 2 * (S : Int))) ∧ y = z) := fun z hz => heldCallS_all z true _ _ v13 S 1 hz (by have := HS3.out; omega) (by omega) (by omega)
      have hq1 : (1 : Int) ≤ 1 + 2 * (S : Int) := by omega
      generalize 1 + 2 * (S : Int) = q at HH hq1 ⊢
      have hq : ¬ q < 0 := by omega
      go_wp2_with fail
      refine (HH.out wf HM_wf.out).mono ?_
      rintro e wg ⟨rfl, hwg⟩
      have hwg2 := hwg.symm
      subst hwg2
      clear hwg
      go_wp2_with fail
      refine wp_region_preds (by kernel_rfl) (by kernel_rfl) (by kernel_rfl) (by kernel_rfl) (fun j => [(fun v _ => v = .slice s0 n0 cap0), (fun v x => ProgAt x 0 v P), (fun v _ => v = .int .i64 k), (fun v _ => v = .int .i64 at_), (fun v _ => v = .agg #[.bool a, .slice ps L.length cs, .bool c, .int .i64 l, .int .i64 u]), (fun v x => StW a L c l u v x), (fun v x => IRow 2 true x wf.heap.size x.heap.size v S N), (fun v x => IRow 2 true x wf.heap.size x.heap.size v S N)].getD j (fun _ _ => True)) ?stable wf ((Below.refl _ _).drew) ?step (fun W7 => ⟨List.toArray ((.slice s0 n0 cap0) :: (.int .i64 k) :: (.int .i64 at_) :: (.agg #[.bool a, .slice ps L.length cs, .bool c, .int .i64 l, .int .i64 u]) :: (undef) :: (undef) :: (undef) :: (.pointer (some ⟨w.heap.size, 0, none⟩)) :: (.bool false) :: (.int .i64 (r - ↑L.length)) :: (v10) :: (u4) :: (.pointer (some ⟨w5.heap.size, 0, none⟩)) :: (v13) :: (.int .i64 K2) :: (.int .i64 q) :: (.int .i64 q) :: (W7 7) :: (.slice s0 n0 cap0) :: (.int .i64 1048576) :: (.int .i64 r) :: (.int .i64 r) :: (.bool (decide (r < 0))) :: (.agg #[.bool a, .slice ps L.length cs, .bool c, .int .i64 l, .int .i64 u]) :: (.int .i64 r) :: (.int .i64 (r - ↑L.length)) :: (.int .i64 (r - ↑L.length)) :: (.bool (decide (r - ↑L.length < 0))) :: (V 0) :: (V 1) :: (V 2) :: (V 3) :: (V 4) :: (V 5) :: (V 6) :: (.slice s0 n0 cap0) :: (u4) :: (.agg #[.bool a, .slice ps L.length cs, .bool c, .int .i64 l, .int .i64 u]) :: (.agg #[.bool a, .slice p5 L.length cap5, .bool c, .int .i64 l, .int .i64 u]) :: (u4) :: (.int .i64 k) :: (.int .i64 at_) :: (.agg #[.bool a, .slice p5 L.length cap5, .bool c, .int .i64 l, .int .i64 u]) :: (v13) :: (v13) :: (v10) :: (.bool true) :: (.bool false) :: (u4) :: (.slice s0 n0 cap0) :: (u9) :: (.bool true) :: (.bool false) :: (U 0) :: (U 1) :: (U 2) :: (U 3) :: (.bool false) :: (u4) :: (.int .i64 1) :: (.int .i64 K) :: (.agg #[.bool a, .slice p5 L.length cap5, .bool c, .int .i64 l, .int .i64 u]) :: (.int .i64 K) :: (.int .i64 K2) :: (.int .i64 K2) :: (.bool (decide (K2 < 0))) :: (.bool (decide (K2 < 0))) :: (v13) :: (v10) :: (.bool true) :: (.bool false) :: (.bool (decide (K2 < 0))) :: (v13) :: (.int .i64 1) :: (.int .i64 q) :: (v13) :: (.int .i64 1) :: (.int .i64 q) :: (.int .i64 q) :: (.bool (decide (q < 0))) :: (.int .i64 q) :: (.int .i64 q) :: (.bool false) :: (W7 0) :: (W7 1) :: (W7 2) :: (W7 3) :: (W7 4) :: (W7 5) :: (W7 6) :: (undef) :: (undef) :: (undef) :: (undef) :: (undef) :: (undef) :: (undef) :: (undef) :: (undef) :: (undef) :: (undef) :: (undef) :: []), []⟩) (fun W7 => by kernel_rfl) ?last
      case stable =>
        intro i v x y ht hb
        rcases i with _ | i
        · exact ht
        rcases i with _ | i
        · exact (ProgAt.later ht hb)
        rcases i with _ | i
        · exact ht
        rcases i with _ | i
        · exact ht
        rcases i with _ | i
        · exact ht
        rcases i with _ | i
        · exact (StW.later ht hb)
        rcases i with _ | i
        · exact ((IRow.later ht hb).wide (Nat.le_refl _) hb.size (Nat.le_refl _))
        rcases i with _ | i
        · exact ((IRow.later ht hb).wide (Nat.le_refl _) hb.size (Nat.le_refl _))
        exact trivial
      case step =>
        intro i o ho ρ y x hBx hdep hout
        rcases i with _ | i
        · obtain rfl := Option.some.inj ho
          have o0 : ρ (.tmp 0) = .slice s0 n0 cap0 := hout (.tmp 0) rfl
          have ocn : ∀ v, ρ (.const v) = v := fun v => hout (.const v) rfl
          have ofn : ∀ f, ρ (.func f) = .func (.func f) #[] #[] := fun f => hout (.func f) rfl
          clear hdep hout
          refine .inl ⟨rfl, ?_⟩
          show GivesP _ _ _ (fun v _ => v = .slice s0 n0 cap0) _
          refine GivesP.val (.slice s0 n0 cap0) rfl ?_
          go_simp
        rcases i with _ | i
        · obtain rfl := Option.some.inj ho
          have e0 : ρ (.tmp 83) = .slice s0 n0 cap0 := (hdep ⟨0, .data⟩ (by simp) rfl 83 rfl).1
          have ocn : ∀ v, ρ (.const v) = v := fun v => hout (.const v) rfl
          have ofn : ∀ f, ρ (.func f) = .func (.func f) #[] #[] := fun f => hout (.func f) rfl
          clear hdep hout
          refine .inl ⟨rfl, ?_⟩
          show GivesP _ _ _ (fun v x => ProgAt x 0 v P) _
          refine GivesP.call ((toProcS_any x 0 _ P ((HP.out.later HB_wf.out).later hBx) HN.out.1 HN.out.2).mono fun e w9 h9 => ⟨h9.choose, h9.choose_spec.1, h9.choose_spec.2.1.lowerS (Nat.zero_le _), h9.choose_spec.2.2⟩) ?_
          go_simp
        rcases i with _ | i
        · obtain rfl := Option.some.inj ho
          have o1 : ρ (.tmp 1) = .int .i64 k := hout (.tmp 1) rfl
          have ocn : ∀ v, ρ (.const v) = v := fun v => hout (.const v) rfl
          have ofn : ∀ f, ρ (.func f) = .func (.func f) #[] #[] := fun f => hout (.func f) rfl
          clear hdep hout
          refine .inl ⟨rfl, ?_⟩
          show GivesP _ _ _ (fun v _ => v = .int .i64 k) _
          refine GivesP.val (.int .i64 k) rfl ?_
          go_simp
        rcases i with _ | i
        · obtain rfl := Option.some.inj ho
          have o2 : ρ (.tmp 2) = .int .i64 at_ := hout (.tmp 2) rfl
          have ocn : ∀ v, ρ (.const v) = v := fun v => hout (.const v) rfl
          have ofn : ∀ f, ρ (.func f) = .func (.func f) #[] #[] := fun f => hout (.func f) rfl
          clear hdep hout
          refine .inl ⟨rfl, ?_⟩
          show GivesP _ _ _ (fun v _ => v = .int .i64 at_) _
          refine GivesP.val (.int .i64 at_) rfl ?_
          go_simp
        rcases i with _ | i
        · obtain rfl := Option.some.inj ho
          have o7 : ρ (.tmp 7) = .pointer (some ⟨w.heap.size, 0, none⟩) := hout (.tmp 7) rfl
          have ocn : ∀ v, ρ (.const v) = v := fun v => hout (.const v) rfl
          have ofn : ∀ f, ρ (.func f) = .func (.func f) #[] #[] := fun f => hout (.func f) rfl
          clear hdep hout
          refine .inl ⟨rfl, ?_⟩
          obtain ⟨_, b0, b1, b2, b3, b4, _⟩ := HX_wf.out.later hBx
          show GivesP _ _ _ (fun v _ => v = .agg #[.bool a, .slice ps L.length cs, .bool c, .int .i64 l, .int .i64 u]) _
          refine GivesP.val (.agg #[.bool a, .slice ps L.length cs, .bool c, .int .i64 l, .int .i64 u]) rfl ?_
          go_simp
        rcases i with _ | i
        · obtain rfl := Option.some.inj ho
          have e4 : ρ (.tmp 87) = .agg #[.bool a, .slice ps L.length cs, .bool c, .int .i64 l, .int .i64 u] := (hdep ⟨4, .data⟩ (by simp) rfl 87 rfl).1
          have ocn : ∀ v, ρ (.const v) = v := fun v => hout (.const v) rfl
          have ofn : ∀ f, ρ (.func f) = .func (.func f) #[] #[] := fun f => hout (.func f) rfl
          clear hdep hout
          refine .inl ⟨rfl, ?_⟩
          show GivesP _ _ _ (fun v x => StW a L c l u v x) _
          refine GivesP.call ((toState_any x false 0 w.heap.size a _ L c l u ((HS.out.later HB_wf.out).later hBx) HLN.out).mono fun e w9 h9 => StW.of h9) ?_
          go_simp
        rcases i with _ | i
        · obtain rfl := Option.some.inj ho
          have t1 := (hdep ⟨1, .data⟩ (by simp) rfl 84 rfl).1
          have t1 : (fun v x => ProgAt x 0 v P) (ρ (.tmp 84)) x := t1
          obtain t1 := t1
          have e2 : ρ (.tmp 85) = .int .i64 k := (hdep ⟨2, .data⟩ (by simp) rfl 85 rfl).1
          have e3 : ρ (.tmp 86) = .int .i64 at_ := (hdep ⟨3, .data⟩ (by simp) rfl 86 rfl).1
          have t5 := (hdep ⟨5, .data⟩ (by simp) rfl 88 rfl).1
          have t5 : (fun v x => StW a L c l u v x) (ρ (.tmp 88)) x := t5
          obtain ⟨q5, B5, E5, e5, k5⟩ := t5
          have ocn : ∀ v, ρ (.const v) = v := fun v => hout (.const v) rfl
          have ofn : ∀ f, ρ (.func f) = .func (.func f) #[] #[] := fun f => hout (.func f) rfl
          clear hdep hout
          refine .inl ⟨rfl, ?_⟩
          show GivesP _ _ _ (fun v x => IRow 2 true x wf.heap.size x.heap.size v S N) _
          refine GivesP.call ((HFI.out x _ 0 t1 _ B5 E5 k5).mono fun e w9 h9 => ⟨h9.choose, h9.choose_spec.1, h9.choose_spec.2.1.wide hBx.size (Nat.le_refl _) (Nat.le_refl _), h9.choose_spec.2.2⟩) ?_
          go_simp
        rcases i with _ | i
        · obtain rfl := Option.some.inj ho
          have t6 := (hdep ⟨6, .data⟩ (by simp) rfl 89 rfl).1
          have t6 : (fun v x => IRow 2 true x wf.heap.size x.heap.size v S N) (ρ (.tmp 89)) x := t6
          obtain t6 := t6
          have ocn : ∀ v, ρ (.const v) = v := fun v => hout (.const v) rfl
          have ofn : ∀ f, ρ (.func f) = .func (.func f) #[] #[] := fun f => hout (.func f) rfl
          clear hdep hout
          refine .inl ⟨rfl, ?_⟩
          show GivesP _ _ _ (fun v x => IRow 2 true x wf.heap.size x.heap.size v S N) _
          exact GivesP.val _ t6 (by go_simp)
        cases ho
      case last =>
        intro W7 wh hBx hV
        have t7 := hV 7 (by simp)
        have t7 : (fun v x => IRow 2 true x wf.heap.size x.heap.size v S N) (W7 7) wh := t7
        obtain t7 := t7
        clear hV
        obtain ⟨v17, hv17⟩ : ∃ v, W7 7 = v := ⟨_, rfl⟩
        rw [hv17]
        rw [hv17] at t7
        clear hv17
        have HB_wh : Hid (Below w.heap.size w wh) := HB_wf.out.trans (hBx.mono HB_wf.out.size)
        have HR_wh : Hid (IRow 2 true wh w2.heap.size w3.heap.size v10 S N) := HR_wf.out.later hBx
        have HM_wh : Hid (IRow 2 true wh w6.heap.size w7.heap.size v13 S (fun j => 1 + (j : Int))) := HM_wf.out.later hBx
        go_wp2_with fail
        refine (eqCallS_any wh true true _ _ _ _ v17 v10 S N t7 HR_wh.out).mono ?_
        rintro e wi ⟨rfl, hbi⟩
        have HB_wi : Hid (Below w.heap.size w wi) := HB_wh.out.trans (hbi.mono HB_wh.out.size)
        have HM_wi : Hid (IRow 2 true wi w6.heap.size w7.heap.size v13 S (fun j => 1 + (j : Int))) := HM_wh.out.later hbi
        clear HB_wh HM_wh hbi
        clear t7
        go_wp2_with fail
        refine (HH.out wi HM_wi.out).mono ?_
        rintro e wj ⟨rfl, hwj⟩
        have hwj2 := hwj.symm
        subst hwj2
        clear hwj
        go_wp2_with fail
        go_ret
        exact ⟨rfl, HB_wi.out⟩

end Go.Proofs.Ytbjegekfghihkaa

/-
  A program that is handed in, opened: what it reads as.
-/
namespace Go.Proofs.Ytbjegekfghihkaa
open Go.ChangeShapes Go.WideShapes Go.ChangeAt Go.RowKit Go.Joins Go.Deep
set_option linter.unusedVariables false
set_option linter.unusedSimpArgs false

theorem cell_ltP {w : World} {a : Addr} {v : Value} (h : w.cell? a = some v) : a.block < w.heap.size := by
  rcases Nat.lt_or_ge a.block w.heap.size with hl | hl
  · exact hl
  · exfalso
    have hn : w.heap[a.block]? = none := by simp; omega
    obtain ⟨b, o, s⟩ := a
    simp only at hn
    simp [World.cell?, hn] at h

section
variable {H : Type} {enc : TypeId × Value → H} {W : World} {spare : Nat → Bool} {held : Bool}

theorem list4 {α : Type} {cs : List α} (h : cs.length = 4) : ∃ c0 c1 c2 c3, cs = [c0, c1, c2, c3] := by
  match cs, h with
  | [c0, c1, c2, c3], _ => exact ⟨c0, c1, c2, c3, rfl⟩
theorem open_ins_cells {fuel : Nat} {cs : List Value} {x : DataW H × List MemPlace} (h : DataW.trod enc Try.prog W 0 spare held fuel 131 cs = some x) :
    ∃ k a b c : Int, cs = [.int .i64 k, .int .i64 a, .int .i64 b, .int .i64 c] := by
  obtain ⟨y0, y1, y2, y3, n, _, hl, h0, h1, h2, h3⟩ := trod_struct4 Try.underlying131 h
  have hc : Try.prog.cellsOf 131 = 4 := by kernel_rfl
  have hi : Try.prog.cellsOf 3 = 1 := by kernel_rfl
  rw [hc] at hl
  obtain ⟨c0, c1, c2, c3, rfl⟩ := list4 hl
  simp only [hi, List.drop_zero, List.drop_succ_cons, List.take_succ_cons, List.take_zero] at h0 h1 h2 h3
  obtain ⟨k, e0, _⟩ := DataW.trod_int Try.underlying3 h0
  obtain ⟨a, e1, _⟩ := DataW.trod_int Try.underlying3 h1
  obtain ⟨b, e2, _⟩ := DataW.trod_int Try.underlying3 h2
  obtain ⟨c, e3, _⟩ := DataW.trod_int Try.underlying3 h3
  simp at e0 e1 e2 e3
  subst e0 e1 e2 e3
  exact ⟨k, a, b, c, rfl⟩

theorem list_ofP {α : Type} (d : α) {n : Nat} (q : Nat → α) : ∃ L : List α, L.length = n ∧ ∀ j, j < n → L.getD j d = q j :=
  ⟨(List.range n).map q, by simp, fun j hj => by simp [List.getD, hj]⟩

theorem open_code {fuel : Nat} {v : Value} {x : DataW H × List MemPlace} (h : DataW.trod enc Try.prog W 0 spare held fuel 61 [v] = some x) :
    ∃ c, CodeAt W 0 v c := by
  have hc : Try.prog.cellsOf 131 = 4 := by kernel_rfl
  rcases open_slice Try.underlying61 h with ⟨hcs, _⟩ | ⟨a, len, cap, m, n, D, Pl, hcs, _, hl, hm, hmm, _, hx⟩
  · simp at hcs
    subst hcs
    exact ⟨[], none, 0, rfl, Nat.zero_le _, .inl rfl⟩
  · simp at hcs
    subst hcs
    have hlm : len ≤ m := by rw [hmm]; split <;> omega
    have each : ∀ i, i < len → ∃ q : I4, W.cell? (a.add (i * 4)) = some (.int .i64 q.1) ∧ W.cell? (a.add (i * 4 + 1)) = some (.int .i64 q.2.1) ∧ W.cell? (a.add (i * 4 + 2)) = some (.int .i64 q.2.2.1) ∧ W.cell? (a.add (i * 4 + 3)) = some (.int .i64 q.2.2.2) := by
      intro i hi
      obtain ⟨cs', h1, h2⟩ := hx i (by omega)
      rw [hc] at h1
      obtain ⟨_, hlen, hcell⟩ := World.cells?_some h1
      obtain ⟨k, a', b, c, rfl⟩ := open_ins_cells h2
      have e0 := hcell 0 (by omega)
      have e1 := hcell 1 (by omega)
      have e2 := hcell 2 (by omega)
      have e3 := hcell 3 (by omega)
      rw [add_add] at e0 e1 e2 e3
      exact ⟨(k, a', b, c), by simpa using e0, by simpa using e1, by simpa using e2, by simpa using e3⟩
    obtain ⟨q, hq⟩ := choose_lt each
    obtain ⟨L, hL, hget⟩ := list_ofP i0 (n := len) q
    refine ⟨L, some a, cap, by rw [hL], by rw [hL]; omega, ?_⟩
    rw [hL]
    by_cases h0 : len = 0
    · exact .inl h0
    · right
      obtain ⟨b, off, spot⟩ := a
      have hspot : spot = none := by simpa [Addr.add] using World.cell?_spot (hq 0 (by omega)).1
      subst hspot
      have hlt : b < W.heap.size := by
        have := cell_ltP (hq 0 (by omega)).1
        simpa [Addr.add] using this
      refine ⟨b, off, rfl, Nat.zero_le _, hlt, fun j hj => ?_⟩
      obtain ⟨g0, g1, g2, g3⟩ := hq j hj
      rw [add_plain] at g0 g1 g2 g3
      rw [hget j hj]
      exact ⟨g0, g1, g2, g3⟩

theorem open_procs {fuel : Nat} {v : Value} {x : DataW H × List MemPlace} (h : DataW.trod enc Try.prog W 0 spare held fuel 22 [v] = some x) :
    ∃ P, ProgAt W 0 v P := by
  have hc : Try.prog.cellsOf 63 = 1 := by kernel_rfl
  have hs : Try.prog.cellsOf 61 = 1 := by kernel_rfl
  rcases open_slice1 Try.underlying22 hc h with ⟨hcs, _⟩ | ⟨a, len, cap, m, n, V, D, Pl, hcs, _, hl, hm, hmm, _, hx⟩
  · simp at hcs
    subst hcs
    exact ⟨[], none, 0, rfl, Nat.zero_le _, .inl rfl⟩
  · simp at hcs
    subst hcs
    have hlm : len ≤ m := by rw [hmm]; split <;> omega
    have each : ∀ i, i < len → ∃ c : List I4, CodeAt W 0 (V i) c := by
      intro i hi
      obtain ⟨_, h2⟩ := hx i (by omega)
      obtain ⟨y0, n', _, _, hy⟩ := trod_struct1 Try.underlying63 h2
      simp only [hs, List.drop_zero, List.take_succ_cons, List.take_zero] at hy
      exact open_code hy
    obtain ⟨q, hq⟩ := choose_lt each
    obtain ⟨L, hL, hget⟩ := list_ofP [] (n := len) q
    refine ⟨L, some a, cap, by rw [hL], by rw [hL]; omega, ?_⟩
    rw [hL]
    by_cases h0 : len = 0
    · exact .inl h0
    · right
      obtain ⟨b, off, spot⟩ := a
      have h00 := (hx 0 (by omega)).1
      have hspot : spot = none := by simpa [Addr.add] using World.cell?_spot h00
      subst hspot
      have hlt : b < W.heap.size := by
        have := cell_ltP h00
        simpa [Addr.add] using this
      refine ⟨b, off, rfl, Nat.zero_le _, hlt, fun j hj => ⟨V j, ?_, ?_⟩⟩
      · have := (hx j (by omega)).1
        rw [add_plain] at this
        exact this
      · rw [hget j hj]
        exact hq j hj

theorem open_prog {s : Option Addr} {n cap : Nat} {d : DataW H} {p : List MemPlace} (h : DataW.Trod enc Try.prog W 0 spare held 22 (.slice s n cap) d p) : ∃ P, ProgAt W 0 (.slice s n cap) P := by
  obtain ⟨fuel, hf⟩ := h
  exact open_procs hf
end
end Go.Proofs.Ytbjegekfghihkaa
