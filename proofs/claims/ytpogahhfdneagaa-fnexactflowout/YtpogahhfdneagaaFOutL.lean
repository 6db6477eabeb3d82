/-
  The walk of the exact law of FlowOut.
-/
import Derived.Test.YtpogahhfdneagaaFFlowI
import Derived.Test.YtpogahhfdneagaaFFlowS
namespace Go.Proofs.Ytpogahhfdneagaa
open Go.RowKit
set_option linter.unusedVariables false
set_option linter.unusedSimpArgs false

theorem ProgAt.lower {x : World} {B C : Nat} {v : Value} {P : List (List I4)} (h : ProgAt x B v P) (hc : C ≤ B) : ProgAt x C v P := by
  obtain ⟨p, cap, hv, hm, hq⟩ := h
  refine ⟨p, cap, hv, hm, hq.imp id ?_⟩
  rintro ⟨g, o, hp, hB, hg, hj⟩
  exact ⟨g, o, hp, by omega, hg, fun j h => by obtain ⟨u, hu, hcu⟩ := hj j h; exact ⟨u, hu, hcu.lower hc⟩⟩
/-- a state whose spans lie somewhere -/
def StU (a : Bool) (L : List Sp) (c : Bool) (l u : Int) (v : Value) (x : World) : Prop := ∃ s B E, v = .agg #[.bool a, s, .bool c, .int .i64 l, .int .i64 u] ∧ SpsAt true x B E s L
theorem StU.later {a : Bool} {L : List Sp} {c : Bool} {l u : Int} {v : Value} {x y : World} (h : StU a L c l u v x) (hb : Below x.heap.size x y) : StU a L c l u v y := by
  obtain ⟨s, B, E, e, hs⟩ := h
  exact ⟨s, B, E, e, hs.later hb⟩
theorem StU.of {a : Bool} {L : List Sp} {c : Bool} {l u : Int} {e : Ending} {x y : World} (h : ∃ v', e = .returned (.agg #[.bool a, v', .bool c, .int .i64 l, .int .i64 u]) ∧ SpsAt true y x.heap.size y.heap.size v' L ∧ Below x.heap.size x y) : ∃ v, e = .returned v ∧ StU a L c l u v y ∧ Below x.heap.size x y := by
  obtain ⟨v', he, hs, hb⟩ := h
  exact ⟨_, he, ⟨v', _, _, rfl, hs⟩, hb⟩

set_option pp.maxSteps 1000000 in
set_option pp.deepTerms true in
set_option maxRecDepth 100000 in
set_option maxHeartbeats 8000000 in
theorem exactFlowOut_walk (s0 : Option Addr) (n0 cap0 : Nat) (P : List (List I4)) (k at_ : Int) (a : Bool) (sv : Value) (L : List Sp) (c : Bool) (l u : Int) (w : World) (hP : ProgAt w 0 (.slice s0 n0 cap0) P) (hk : (Lit.int .i64 k).wf = true) (hat : (Lit.int .i64 at_).wf = true) (hS : SpsAt false w 0 w.heap.size sv L) :
    Calls Try.prog 3 #[.slice s0 n0 cap0, .int .i64 k, .int .i64 at_, .agg #[.bool a, sv, .bool c, .int .i64 l, .int .i64 u]] w fun e w' => e = .returned (.bool true) ∧ Below w.heap.size w w' := by
  obtain ⟨ps, cs, rfl⟩ := hS.shape
  have HM : Hid (L.length ≤ maxLen) := by obtain ⟨_, _, _, hm, _⟩ := hS; exact hm
  have HP : Hid (ProgAt w 0 (.slice s0 n0 cap0) P) := hP
  have HS : Hid (SpsAt false w 0 w.heap.size (.slice ps L.length cs) L) := hS
  clear hP hS hk hat
  go_enter Try.func3, Try.ntmps3
  go_wp2_with fail
  generalize hX : w.alloc (.cells #[.bool a, .slice ps L.length cs, .bool c, .int .i64 l, .int .i64 u] 27) = X
  have HXB : Hid (Below w.heap.size w X) := by show Below w.heap.size w X; rw [← hX]; exact (Below.refl _ _).alloc (Nat.le_refl _) _
  have HXX : Hid (Bx5 X w.heap.size (.bool a) (.slice ps L.length cs) (.bool c) (.int .i64 l) (.int .i64 u)) := by show Bx5 _ _ _ _ _ _ _; rw [← hX]; exact Bx5.new _ _ _ _ _ _ _
  clear hX
  refine (szProcS_any _ 0 _ P (HP.out.later HXB.out)).mono ?_
  rintro e w1 ⟨r, rfl, hr, hr1, hb1⟩
  have HR : Hid (0 ≤ r → P.length ≤ 1048576 ∧ ∀ j, j < P.length → (P.getD j []).length ≤ 1048576) := hr
  have HB1 : Hid (Below w.heap.size w w1) := HXB.out.trans (hb1.mono HXB.out.size)
  have HX1 : Hid (Bx5 w1 w.heap.size (.bool a) (.slice ps L.length cs) (.bool c) (.int .i64 l) (.int .i64 u)) := HXX.out.later hb1
  clear hr hb1 HXB HXX
  by_cases hneg : r < 0
  · go_wp2_with fail
    go_ret
    exact ⟨rfl, HB1.out⟩
  have HN : Hid (P.length ≤ 1048576 ∧ ∀ j, j < P.length → (P.getD j []).length ≤ 1048576) := HR.out (by omega)
  have h0r : 0 ≤ r := by omega
  clear HR
  have x1 := HX1.out
  obtain ⟨_, b0, b1, b2, b3, b4, _⟩ := x1
  go_wp2_with fail
  refine (szState_any a ps L.length cs c l u r _ h0r hr1 HM.out).mono ?_
  rintro e w2 ⟨rfl, hb2⟩
  have HB2 : Hid (Below w.heap.size w w2) := HB1.out.trans (hb2.mono HB1.out.size)
  have HX2 : Hid (Bx5 w2 w.heap.size (.bool a) (.slice ps L.length cs) (.bool c) (.int .i64 l) (.int .i64 u)) := HX1.out.later hb2
  clear hb2 HB1 HX1 b0 b1 b2 b3 b4
  by_cases hneg2 : r - (L.length : Int) < 0
  · rw [if_pos hneg2]
    go_wp2_with fail
    go_ret
    exact ⟨rfl, HB2.out⟩
  rw [if_neg hneg2]
  have HLN : Hid (L.length ≤ 1048576) := by show L.length ≤ 1048576; omega
  clear HM h0r hr1
  have HF : Hid (∀ (z : World) (v : Value), ProgAt z 0 v P → ∀ (s : Value) (B E : Nat), SpsAt true z B E s L → Calls Try.prog 11 #[v, .int .i64 k, .int .i64 at_, .agg #[.bool a, s, .bool c, .int .i64 l, .int .i64 u]] z fun e y => e = .returned (aggS (outFlow P k at_ a L (c, l, u))) ∧ Below z.heap.size z y) :=
    fun z v hp s B E hs => flowOut_spec z 0 v P hp k at_ true B E a s L c l u hs
  have HFI : Hid (∀ (z : World) (v : Value) (D : Nat), ProgAt z D v P → ∀ (s : Value) (B E : Nat), SpsAt true z B E s L → Calls Try.prog 14 #[v, .int .i64 k, .int .i64 at_, .agg #[.bool a, s, .bool c, .int .i64 l, .int .i64 u]] z fun e y => e = .returned (aggS (outFlow P k at_ a L (c, l, u))) ∧ Below z.heap.size z y) :=
    fun z v D hp s B E hs => flowOut_impl z D v P hp k at_ true B E a s L c l u hs
  generalize outFlow P k at_ a L (c, l, u) = G at HF HFI
  go_wp2_with fail
  refine wp_region_store (by kernel_rfl) (by kernel_rfl) (by kernel_rfl) (by kernel_rfl) 8 (by kernel_rfl) (by kernel_rfl) _ rfl (fun j => [(fun v _ => v = .slice s0 n0 cap0), (fun v x => ProgAt x 0 v P), (fun v _ => v = .int .i64 k), (fun v _ => v = .int .i64 at_), (fun v _ => v = .agg #[.bool a, .slice ps L.length cs, .bool c, .int .i64 l, .int .i64 u]), (fun v x => StU a L c l u v x), (fun v _ => v = aggS G), (fun v x => ∃ m, v = .pointer (some ⟨m, 0, none⟩) ∧ w2.heap.size ≤ m ∧ Sf3 x m noSp)].getD j (fun _ _ => True)) ?stable w2 ((Below.refl _ _).drew) ?step (fun V => ⟨List.toArray ((.slice s0 n0 cap0) :: (.int .i64 k) :: (.int .i64 at_) :: (.agg #[.bool a, .slice ps L.length cs, .bool c, .int .i64 l, .int .i64 u]) :: (undef) :: (undef) :: (undef) :: (.pointer (some ⟨w.heap.size, 0, none⟩)) :: (.bool false) :: (.int .i64 (r - L.length)) :: (V 7) :: (undef) :: (undef) :: (undef) :: (.slice s0 n0 cap0) :: (.int .i64 1048576) :: (.int .i64 r) :: (.int .i64 r) :: (.bool (decide (r < 0))) :: (.agg #[.bool a, .slice ps L.length cs, .bool c, .int .i64 l, .int .i64 u]) :: (.int .i64 r) :: (.int .i64 (r - L.length)) :: (.int .i64 (r - L.length)) :: (.bool (decide (r - L.length < 0))) :: (V 0) :: (V 1) :: (V 2) :: (V 3) :: (V 4) :: (V 5) :: (V 6) :: (undef) :: (undef) :: (undef) :: (undef) :: (undef) :: (undef) :: (undef) :: (undef) :: (undef) :: (undef) :: (undef) :: (undef) :: (undef) :: (undef) :: (undef) :: (undef) :: (undef) :: (undef) :: (undef) :: (undef) :: (undef) :: (undef) :: (undef) :: []), []⟩) (fun V => by kernel_rfl) ?last
  case stable =>
    intro i v x y ht hb
    rcases i with _ | i
    · exact ht
    rcases i with _ | i
    · exact (ProgAt.later ht hb)
    rcases i with _ | i
    · exact ht
    rcases i with _ | i
    · exact ht
    rcases i with _ | i
    · exact ht
    rcases i with _ | i
    · exact (StU.later ht hb)
    rcases i with _ | i
    · exact ht
    rcases i with _ | i
    · exact (Exists.elim ht fun m hm => ⟨m, hm.1, hm.2.1, hm.2.2.later hb⟩)
    exact trivial
  case step =>
    intro i o hin ho ρ y x hBx hdep hout
    rcases i with _ | i
    · obtain rfl := Option.some.inj ho
      have o0 : ρ (.tmp 0) = .slice s0 n0 cap0 := hout (.tmp 0) rfl
      have ocn : ∀ v, ρ (.const v) = v := fun v => hout (.const v) rfl
      have ofn : ∀ f, ρ (.func f) = .func (.func f) #[] #[] := fun f => hout (.func f) rfl
      clear hdep hout
      refine .inl ⟨rfl, ?_⟩
      show GivesP _ _ _ (fun v _ => v = .slice s0 n0 cap0) _
      refine GivesP.val (.slice s0 n0 cap0) rfl ?_
      go_simp
    rcases i with _ | i
    · obtain rfl := Option.some.inj ho
      have e0 : ρ (.tmp 24) = .slice s0 n0 cap0 := (hdep ⟨0, .data⟩ (by simp) rfl 24 rfl).1
      have ocn : ∀ v, ρ (.const v) = v := fun v => hout (.const v) rfl
      have ofn : ∀ f, ρ (.func f) = .func (.func f) #[] #[] := fun f => hout (.func f) rfl
      clear hdep hout
      refine .inl ⟨rfl, ?_⟩
      show GivesP _ _ _ (fun v x => ProgAt x 0 v P) _
      refine GivesP.call ((toProcS_any x 0 _ P ((HP.out.later HB2.out).later hBx) HN.out.1 HN.out.2).mono fun e w9 h9 => ⟨h9.choose, h9.choose_spec.1, h9.choose_spec.2.1.lower (Nat.zero_le _), h9.choose_spec.2.2⟩) ?_
      go_simp
    rcases i with _ | i
    · obtain rfl := Option.some.inj ho
      have o1 : ρ (.tmp 1) = .int .i64 k := hout (.tmp 1) rfl
      have ocn : ∀ v, ρ (.const v) = v := fun v => hout (.const v) rfl
      have ofn : ∀ f, ρ (.func f) = .func (.func f) #[] #[] := fun f => hout (.func f) rfl
      clear hdep hout
      refine .inl ⟨rfl, ?_⟩
      show GivesP _ _ _ (fun v _ => v = .int .i64 k) _
      refine GivesP.val (.int .i64 k) rfl ?_
      go_simp
    rcases i with _ | i
    · obtain rfl := Option.some.inj ho
      have o2 : ρ (.tmp 2) = .int .i64 at_ := hout (.tmp 2) rfl
      have ocn : ∀ v, ρ (.const v) = v := fun v => hout (.const v) rfl
      have ofn : ∀ f, ρ (.func f) = .func (.func f) #[] #[] := fun f => hout (.func f) rfl
      clear hdep hout
      refine .inl ⟨rfl, ?_⟩
      show GivesP _ _ _ (fun v _ => v = .int .i64 at_) _
      refine GivesP.val (.int .i64 at_) rfl ?_
      go_simp
    rcases i with _ | i
    · obtain rfl := Option.some.inj ho
      have o7 : ρ (.tmp 7) = .pointer (some ⟨w.heap.size, 0, none⟩) := hout (.tmp 7) rfl
      have ocn : ∀ v, ρ (.const v) = v := fun v => hout (.const v) rfl
      have ofn : ∀ f, ρ (.func f) = .func (.func f) #[] #[] := fun f => hout (.func f) rfl
      clear hdep hout
      refine .inl ⟨rfl, ?_⟩
      obtain ⟨_, b0, b1, b2, b3, b4, _⟩ := HX2.out.later hBx
      show GivesP _ _ _ (fun v _ => v = .agg #[.bool a, .slice ps L.length cs, .bool c, .int .i64 l, .int .i64 u]) _
      refine GivesP.val (.agg #[.bool a, .slice ps L.length cs, .bool c, .int .i64 l, .int .i64 u]) rfl ?_
      go_simp
    rcases i with _ | i
    · obtain rfl := Option.some.inj ho
      have e4 : ρ (.tmp 28) = .agg #[.bool a, .slice ps L.length cs, .bool c, .int .i64 l, .int .i64 u] := (hdep ⟨4, .data⟩ (by simp) rfl 28 rfl).1
      have ocn : ∀ v, ρ (.const v) = v := fun v => hout (.const v) rfl
      have ofn : ∀ f, ρ (.func f) = .func (.func f) #[] #[] := fun f => hout (.func f) rfl
      clear hdep hout
      refine .inl ⟨rfl, ?_⟩
      show GivesP _ _ _ (fun v x => StU a L c l u v x) _
      refine GivesP.call ((toState_any x false 0 w.heap.size a _ L c l u ((HS.out.later HB2.out).later hBx) HLN.out).mono fun e w9 h9 => StU.of h9) ?_
      go_simp
    rcases i with _ | i
    · obtain rfl := Option.some.inj ho
      have t1 := (hdep ⟨1, .data⟩ (by simp) rfl 25 rfl).1
      have t1 : (fun v x => ProgAt x 0 v P) (ρ (.tmp 25)) x := t1
      obtain t1 := t1
      have e2 : ρ (.tmp 26) = .int .i64 k := (hdep ⟨2, .data⟩ (by simp) rfl 26 rfl).1
      have e3 : ρ (.tmp 27) = .int .i64 at_ := (hdep ⟨3, .data⟩ (by simp) rfl 27 rfl).1
      have t5 := (hdep ⟨5, .data⟩ (by simp) rfl 29 rfl).1
      have t5 : (fun v x => StU a L c l u v x) (ρ (.tmp 29)) x := t5
      obtain ⟨q5, B5, E5, e5, k5⟩ := t5
      have ocn : ∀ v, ρ (.const v) = v := fun v => hout (.const v) rfl
      have ofn : ∀ f, ρ (.func f) = .func (.func f) #[] #[] := fun f => hout (.func f) rfl
      clear hdep hout
      refine .inl ⟨rfl, ?_⟩
      show GivesP _ _ _ (fun v _ => v = aggS G) _
      refine GivesP.call ((HF.out x _ t1 _ B5 E5 k5).mono fun e w9 h9 => ⟨_, h9.1, rfl, h9.2⟩) ?_
      go_simp
    rcases i with _ | i
    · obtain rfl := Option.some.inj ho
      have ocn : ∀ v, ρ (.const v) = v := fun v => hout (.const v) rfl
      have ofn : ∀ f, ρ (.func f) = .func (.func f) #[] #[] := fun f => hout (.func f) rfl
      clear hdep hout
      refine .inl ⟨rfl, ?_⟩
      show GivesP _ _ _ (fun v x => ∃ m, v = .pointer (some ⟨m, 0, none⟩) ∧ w2.heap.size ≤ m ∧ Sf3 x m noSp) _
      refine GivesP.made (.pointer (some ⟨x.heap.size, 0, none⟩)) (x.alloc (.cells #[.bool false, .int .i64 0, .int .i64 0] 30)) ((Below.refl _ _).alloc (Nat.le_refl _) _) (⟨_, rfl, hBx.size, Sf3.new x noSp _⟩) ?_
      go_simp
    exact absurd hin (by omega)
  case last =>
    intro V x hBx hV
    have e6 : V 6 = aggS G := hV 6 (by omega)
    have t7 := hV 7 (by omega)
    have t7 : (fun v x => ∃ m, v = .pointer (some ⟨m, 0, none⟩) ∧ w2.heap.size ≤ m ∧ Sf3 x m noSp) (V 7) x := t7
    obtain ⟨m7, e7, l7, k7⟩ := t7
    clear hV
    obtain ⟨n0, c0, c1, c2, f0, f1, f2⟩ := k7
    refine ⟨setS x m7 G, ?_, ?_⟩
    · unfold aggS at e6
      unfold setS
      go_simp
    · have HM7 : Hid (Sf3 (setS x m7 G) m7 G ∧ Below w.heap.size w (setS x m7 G) ∧ Bx5 (setS x m7 G) w.heap.size (.bool a) (.slice ps L.length cs) (.bool c) (.int .i64 l) (.int .i64 u)) := by
        have hlt := HX2.out.lt
        have h3 : Sf3 x m7 noSp := ⟨n0, c0, c1, c2, f0, f1, f2⟩
        have hb := HB2.out.trans (hBx.mono HB2.out.size)
        exact ⟨h3.set, below_setS hb (by have := HB2.out.size; omega), (((HX2.out.later hBx).off (by omega)).off (by omega)).off (by omega)⟩
      clear n0 c0 c1 c2 f0 f1 f2 e6 HB2 HX2 hBx l7
      generalize setS x m7 G = w3 at HM7 ⊢
      have HB3 : Hid (Below w.heap.size w w3) := HM7.out.2.1
      have HX3 : Hid (Bx5 w3 w.heap.size (.bool a) (.slice ps L.length cs) (.bool c) (.int .i64 l) (.int .i64 u)) := HM7.out.2.2
      have HM3 : Hid (Sf3 w3 m7 G) := HM7.out.1
      clear HM7
      go_wp2_with fail
      refine (toProcS_any _ 0 _ P (HP.out.later HB3.out) HN.out.1 HN.out.2).mono ?_
      rintro e w4 ⟨u4, rfl, hP4, hb4⟩
      have HB4 : Hid (Below w.heap.size w w4) := HB3.out.trans (hb4.mono HB3.out.size)
      have HX4 : Hid (Bx5 w4 w.heap.size (.bool a) (.slice ps L.length cs) (.bool c) (.int .i64 l) (.int .i64 u)) := HX3.out.later hb4
      have HM4 : Hid (Sf3 w4 m7 G) := HM3.out.later hb4
      have HP4 : Hid (ProgAt w4 w3.heap.size u4 P) := hP4
      clear hb4 hP4 HB3 HX3 HM3
      have x4 := HX4.out
      obtain ⟨_, b0, b1, b2, b3, b4, _⟩ := x4
      go_wp2_with fail
      refine (toState_any _ false 0 w.heap.size a _ L c l u (HS.out.later HB4.out) HLN.out).mono ?_
      rintro e w5 ⟨v5, rfl, hS5, hb5⟩
      obtain ⟨p5, cap5, rfl⟩ := hS5.shape
      have HB5 : Hid (Below w.heap.size w w5) := HB4.out.trans (hb5.mono HB4.out.size)
      have HX5 : Hid (Bx5 w5 w.heap.size (.bool a) (.slice ps L.length cs) (.bool c) (.int .i64 l) (.int .i64 u)) := HX4.out.later hb5
      have HM5 : Hid (Sf3 w5 m7 G) := HM4.out.later hb5
      have HP5 : Hid (ProgAt w5 w3.heap.size u4 P) := HP4.out.later hb5
      have HS5 : Hid (SpsAt true w5 w4.heap.size w5.heap.size (.slice p5 L.length cap5) L) := hS5
      clear hb5 hS5 HB4 HX4 HM4 HP4 b0 b1 b2 b3 b4
      go_wp2_with fail
      generalize hY : w5.alloc (.cells #[.bool a, .slice p5 L.length cap5, .bool c, .int .i64 l, .int .i64 u] 36) = Y
      have hYB : Below w5.heap.size w5 Y := by rw [← hY]; exact (Below.refl _ _).alloc (Nat.le_refl _) _
      have HK6 : Hid (Bx5 Y w5.heap.size (.bool a) (.slice p5 L.length cap5) (.bool c) (.int .i64 l) (.int .i64 u)) := by show Bx5 _ _ _ _ _ _ _; rw [← hY]; exact Bx5.new _ _ _ _ _ _ _
      have HB6 : Hid (Below w.heap.size w Y) := HB5.out.trans (hYB.mono HB5.out.size)
      have HX6 : Hid (Bx5 Y w.heap.size (.bool a) (.slice ps L.length cs) (.bool c) (.int .i64 l) (.int .i64 u)) := HX5.out.later hYB
      have HM6 : Hid (Sf3 Y m7 G) := HM5.out.later hYB
      have HP6 : Hid (ProgAt Y w3.heap.size u4 P) := HP5.out.later hYB
      have HS6 : Hid (SpsAt true Y w4.heap.size w5.heap.size (.slice p5 L.length cap5) L) := HS5.out.later hYB
      clear hY hYB HB5 HX5 HM5 HP5 HS5
      have x6 := HK6.out
      obtain ⟨_, b0, b1, b2, b3, b4, _⟩ := x6
      skip
      refine (HFI.out Y _ w3.heap.size HP6.out _ w4.heap.size w5.heap.size HS6.out).mono ?_
      rintro e w7 ⟨rfl, hb7⟩
      have HK7 : Hid (Bx5 w7 w5.heap.size (.bool a) (.slice p5 L.length cap5) (.bool c) (.int .i64 l) (.int .i64 u)) := HK6.out.later hb7
      have HB7 : Hid (Below w.heap.size w w7) := HB6.out.trans (hb7.mono HB6.out.size)
      have HX7 : Hid (Bx5 w7 w.heap.size (.bool a) (.slice ps L.length cs) (.bool c) (.int .i64 l) (.int .i64 u)) := HX6.out.later hb7
      have HM7 : Hid (Sf3 w7 m7 G) := HM6.out.later hb7
      have HP7 : Hid (ProgAt w7 w3.heap.size u4 P) := HP6.out.later hb7
      have HS7 : Hid (SpsAt true w7 w4.heap.size w5.heap.size (.slice p5 L.length cap5) L) := HS6.out.later hb7
      clear hb7 HK6 HB6 HX6 HM6 HP6 HS6 b0 b1 b2 b3 b4
      obtain ⟨ga, gl, gu⟩ := G
      have x7 := HM7.out
      obtain ⟨_, c0, c1, c2, _, _, _⟩ := x7
      unfold aggS
      go_wp2_with fail
      refine (eqSpan_same ga gl gu _).mono ?_
      rintro e w8 ⟨rfl, hb8⟩
      have hc8 : Below w7.heap.size w7 w8 := ((Below.refl _ _).alloc (Nat.le_refl _) _).trans (hb8.mono (by simp))
      have HK8 : Hid (Bx5 w8 w5.heap.size (.bool a) (.slice p5 L.length cap5) (.bool c) (.int .i64 l) (.int .i64 u)) := HK7.out.later hc8
      have HB8 : Hid (Below w.heap.size w w8) := HB7.out.trans (hc8.mono HB7.out.size)
      have HX8 : Hid (Bx5 w8 w.heap.size (.bool a) (.slice ps L.length cs) (.bool c) (.int .i64 l) (.int .i64 u)) := HX7.out.later hc8
      have HP8 : Hid (ProgAt w8 w3.heap.size u4 P) := HP7.out.later hc8
      have HS8 : Hid (SpsAt true w8 w4.heap.size w5.heap.size (.slice p5 L.length cap5) L) := HS7.out.later hc8
      clear hb8 hc8 HK7 HB7 HX7 HM7 HP7 HS7 c0 c1 c2 HF HFI
      go_wp2_with fail
      refine (toProcS_any _ 0 _ P (HP.out.later HB8.out) HN.out.1 HN.out.2).mono ?_
      rintro e w9 ⟨u9, rfl, hP9, hb9⟩
      have HK9 : Hid (Bx5 w9 w5.heap.size (.bool a) (.slice p5 L.length cap5) (.bool c) (.int .i64 l) (.int .i64 u)) := HK8.out.later hb9
      have HB9 : Hid (Below w.heap.size w w9) := HB8.out.trans (hb9.mono HB8.out.size)
      have HX9 : Hid (Bx5 w9 w.heap.size (.bool a) (.slice ps L.length cs) (.bool c) (.int .i64 l) (.int .i64 u)) := HX8.out.later hb9
      have HP9 : Hid (ProgAt w9 w3.heap.size u4 P) := HP8.out.later hb9
      have HS9 : Hid (SpsAt true w9 w4.heap.size w5.heap.size (.slice p5 L.length cap5) L) := HS8.out.later hb9
      have HQ9 : Hid (ProgAt w9 w8.heap.size u9 P) := hP9
      clear hb9 hP9 HK8 HB8 HX8 HP8 HS8
      go_wp2_with fail
      refine (eqProcS_same w9 _ _ u4 u9 P HP9.out HQ9.out).mono ?_
      rintro e wa ⟨rfl, hba⟩
      have HKA : Hid (Bx5 wa w5.heap.size (.bool a) (.slice p5 L.length cap5) (.bool c) (.int .i64 l) (.int .i64 u)) := HK9.out.later hba
      have HBA : Hid (Below w.heap.size w wa) := HB9.out.trans (hba.mono HB9.out.size)
      have HXA : Hid (Bx5 wa w.heap.size (.bool a) (.slice ps L.length cs) (.bool c) (.int .i64 l) (.int .i64 u)) := HX9.out.later hba
      have HSA : Hid (SpsAt true wa w4.heap.size w5.heap.size (.slice p5 L.length cap5) L) := HS9.out.later hba
      clear hba HK9 HB9 HX9 HP9 HS9 HQ9
      go_wp2_with fail
      refine wp_region_preds (by kernel_rfl) (by kernel_rfl) (by kernel_rfl) (by kernel_rfl) (fun j => [(fun v _ => v = .agg #[.bool a, .slice p5 L.length cap5, .bool c, .int .i64 l, .int .i64 u]), (fun v _ => v = .agg #[.bool a, .slice ps L.length cs, .bool c, .int .i64 l, .int .i64 u]), (fun v x => StU a L c l u v x), (fun v _ => v = .bool true), (fun v _ => v = .bool false)].getD j (fun _ _ => True)) ?stable wa ((Below.refl _ _).drew) ?step (fun U => ⟨List.toArray ((.slice s0 n0 cap0) :: (.int .i64 k) :: (.int .i64 at_) :: (.agg #[.bool a, .slice ps L.length cs, .bool c, .int .i64 l, .int .i64 u]) :: (undef) :: (undef) :: (undef) :: (.pointer (some ⟨w.heap.size, 0, none⟩)) :: (.bool false) :: (.int .i64 (r - L.length)) :: (.pointer (some ⟨m7, 0, none⟩)) :: (u4) :: (.pointer (some ⟨w5.heap.size, 0, none⟩)) :: (.pointer (some ⟨w7.heap.size, 0, none⟩)) :: (.slice s0 n0 cap0) :: (.int .i64 1048576) :: (.int .i64 r) :: (.int .i64 r) :: (.bool (decide (r < 0))) :: (.agg #[.bool a, .slice ps L.length cs, .bool c, .int .i64 l, .int .i64 u]) :: (.int .i64 r) :: (.int .i64 (r - L.length)) :: (.int .i64 (r - L.length)) :: (.bool (decide (r - L.length < 0))) :: (V 0) :: (V 1) :: (V 2) :: (V 3) :: (V 4) :: (V 5) :: (V 6) :: (.slice s0 n0 cap0) :: (u4) :: (.agg #[.bool a, .slice ps L.length cs, .bool c, .int .i64 l, .int .i64 u]) :: (.agg #[.bool a, .slice p5 L.length cap5, .bool c, .int .i64 l, .int .i64 u]) :: (u4) :: (.int .i64 k) :: (.int .i64 at_) :: (.agg #[.bool a, .slice p5 L.length cap5, .bool c, .int .i64 l, .int .i64 u]) :: (.agg #[.bool ga, .int .i64 gl, .int .i64 gu]) :: (.agg #[.bool ga, .int .i64 gl, .int .i64 gu]) :: (.agg #[.bool ga, .int .i64 gl, .int .i64 gu]) :: (.bool true) :: (.bool false) :: (u4) :: (.slice s0 n0 cap0) :: (u9) :: (.bool true) :: (.bool false) :: (U 0) :: (U 1) :: (U 2) :: (U 3) :: (U 4) :: []), []⟩) (fun U => by kernel_rfl) ?last
      case stable =>
        intro i v x y ht hb
        rcases i with _ | i
        · exact ht
        rcases i with _ | i
        · exact ht
        rcases i with _ | i
        · exact (StU.later ht hb)
        rcases i with _ | i
        · exact ht
        rcases i with _ | i
        · exact ht
        exact trivial
      case step =>
        intro i o ho ρ y x hBx hdep hout
        rcases i with _ | i
        · obtain rfl := Option.some.inj ho
          have o12 : ρ (.tmp 12) = .pointer (some ⟨w5.heap.size, 0, none⟩) := hout (.tmp 12) rfl
          have ocn : ∀ v, ρ (.const v) = v := fun v => hout (.const v) rfl
          have ofn : ∀ f, ρ (.func f) = .func (.func f) #[] #[] := fun f => hout (.func f) rfl
          clear hdep hout
          refine .inl ⟨rfl, ?_⟩
          obtain ⟨_, b0, b1, b2, b3, b4, _⟩ := HKA.out.later hBx
          show GivesP _ _ _ (fun v _ => v = .agg #[.bool a, .slice p5 L.length cap5, .bool c, .int .i64 l, .int .i64 u]) _
          refine GivesP.val (.agg #[.bool a, .slice p5 L.length cap5, .bool c, .int .i64 l, .int .i64 u]) rfl ?_
          go_simp
        rcases i with _ | i
        · obtain rfl := Option.some.inj ho
          have o7 : ρ (.tmp 7) = .pointer (some ⟨w.heap.size, 0, none⟩) := hout (.tmp 7) rfl
          have ocn : ∀ v, ρ (.const v) = v := fun v => hout (.const v) rfl
          have ofn : ∀ f, ρ (.func f) = .func (.func f) #[] #[] := fun f => hout (.func f) rfl
          clear hdep hout
          refine .inl ⟨rfl, ?_⟩
          obtain ⟨_, b0, b1, b2, b3, b4, _⟩ := HXA.out.later hBx
          show GivesP _ _ _ (fun v _ => v = .agg #[.bool a, .slice ps L.length cs, .bool c, .int .i64 l, .int .i64 u]) _
          refine GivesP.val (.agg #[.bool a, .slice ps L.length cs, .bool c, .int .i64 l, .int .i64 u]) rfl ?_
          go_simp
        rcases i with _ | i
        · obtain rfl := Option.some.inj ho
          have e1 : ρ (.tmp 50) = .agg #[.bool a, .slice ps L.length cs, .bool c, .int .i64 l, .int .i64 u] := (hdep ⟨1, .data⟩ (by simp) rfl 50 rfl).1
          have ocn : ∀ v, ρ (.const v) = v := fun v => hout (.const v) rfl
          have ofn : ∀ f, ρ (.func f) = .func (.func f) #[] #[] := fun f => hout (.func f) rfl
          clear hdep hout
          refine .inl ⟨rfl, ?_⟩
          show GivesP _ _ _ (fun v x => StU a L c l u v x) _
          refine GivesP.call ((toState_any x false 0 w.heap.size a _ L c l u ((HS.out.later HBA.out).later hBx) HLN.out).mono fun e w9 h9 => StU.of h9) ?_
          go_simp
        rcases i with _ | i
        · obtain rfl := Option.some.inj ho
          have e0 : ρ (.tmp 49) = .agg #[.bool a, .slice p5 L.length cap5, .bool c, .int .i64 l, .int .i64 u] := (hdep ⟨0, .data⟩ (by simp) rfl 49 rfl).1
          have t2 := (hdep ⟨2, .data⟩ (by simp) rfl 51 rfl).1
          have t2 : (fun v x => StU a L c l u v x) (ρ (.tmp 51)) x := t2
          obtain ⟨q2, B2, E2, e2, k2⟩ := t2
          have ocn : ∀ v, ρ (.const v) = v := fun v => hout (.const v) rfl
          have ofn : ∀ f, ρ (.func f) = .func (.func f) #[] #[] := fun f => hout (.func f) rfl
          clear hdep hout
          refine .inl ⟨rfl, ?_⟩
          show GivesP _ _ _ (fun v _ => v = .bool true) _
          refine GivesP.call ((eqState_same x true true w4.heap.size w5.heap.size B2 E2 a _ q2 L c l u (HSA.out.later hBx) k2).mono fun e w9 h9 => ⟨_, h9.1, rfl, h9.2⟩) ?_
          go_simp
        rcases i with _ | i
        · obtain rfl := Option.some.inj ho
          have e3 : ρ (.tmp 52) = .bool true := (hdep ⟨3, .data⟩ (by simp) rfl 52 rfl).1
          have ocn : ∀ v, ρ (.const v) = v := fun v => hout (.const v) rfl
          have ofn : ∀ f, ρ (.func f) = .func (.func f) #[] #[] := fun f => hout (.func f) rfl
          clear hdep hout
          refine .inl ⟨rfl, ?_⟩
          show GivesP _ _ _ (fun v _ => v = .bool false) _
          refine GivesP.val (.bool false) rfl ?_
          go_simp
        cases ho
      case last =>
        intro U z hBx hV
        have e4 : U 4 = .bool false := hV 4 (by simp)
        clear hV
        have hBf := HBA.out.trans (hBx.mono HBA.out.size)
        rw [e4]
        go_wp2_with fail
        go_ret
        exact ⟨rfl, hBf⟩
end Go.Proofs.Ytpogahhfdneagaa
