/-
  The walk of the law FnExactSpanWhen.
-/
import Derived.Test.YtlnfjjciilieeaaWhenE
import Derived.Test.YtlnfjjciilieeaaInv
import Derived.Deep.DeepCutAuto
namespace Go.Proofs.Ytlnfjjciilieeaa
open Go.RowKit
set_option linter.unusedVariables false
set_option linter.unusedSimpArgs false

def WI (mk : Value → Value → Value → Value → Value → Value → Value → Value → Value → Value → Value → Value → Act) (w0 : World) (V0 V1 V2 V3 V4 V5 V6 V7 V8 V9 : Value) (J0 : Sp) (J1 : Sp) (listed : Array Bool) (a : Act) (x : World) : Prop :=
  ∃ (b0 b1 b2 b3 b4 b5 b6 b7 b8 b9 b10 b11 b12 b13 : Bool) (s14 s15 s16 s17 s18 s19 s20 s13 s21 s22 s9 s10 : Value), listed = #[b0, b1, b2, b3, b4, b5, b6, b7, b8, b9, b10, b11, b12, b13] ∧ a = mk s14 s15 s16 s17 s18 s19 s20 s13 s21 s22 s9 s10 ∧ Below w0.heap.size w0 x ∧ (b0 = true → s14 = V0) ∧ (b1 = true → s15 = V1) ∧ (b2 = true → s16 = V2) ∧ (b3 = true → s17 = V3) ∧ (b4 = true → s18 = V4) ∧ (b5 = true → s19 = V5) ∧ (b6 = true → s20 = V6) ∧ (b7 = true → s13 = V7) ∧ (b8 = true → s21 = V8) ∧ (b9 = true → s22 = V9) ∧ PF w0 x b10 b12 s9 J0 ∧ PF w0 x b11 b13 s10 J1 ∧ Apart2 b10 b11 s9 s10

set_option maxHeartbeats 8000000 in
theorem exactSpanWhen_walk (op : Int) (a : Bool) (al ah : Int) (b : Bool) (bl bh : Int) (yes : Bool) (w : World) (wo : (Lit.int .i64 op).wf = true) (wl : (Lit.int .i64 al).wf = true) (wu : (Lit.int .i64 ah).wf = true) (wl' : (Lit.int .i64 bl).wf = true) (wu' : (Lit.int .i64 bh).wf = true) :
    Calls Try.prog 3 #[.int .i64 op, .agg #[.bool a, .int .i64 al, .int .i64 ah], .agg #[.bool b, .int .i64 bl, .int .i64 bh], .bool yes] w fun e w' => e = .returned (.bool true) ∧ Below w.heap.size w w' := by
  clear wo wl wu wl' wu'
  obtain ⟨j1, j2, j3, i1, i2, i3, Js, Ji⟩ := when_same op a al ah b bl bh yes
  go_enter Try.func3, Try.ntmps3
  go_upto_region 1 with fail
  have spA : Sp3 ((w.alloc (.cells #[.bool a, .int .i64 al, .int .i64 ah] 23)).alloc (.cells #[.bool b, .int .i64 bl, .int .i64 bh] 23)) w.heap.size a al ah := (sp3_new w a al ah _).alloc _
  have spB : Sp3 ((w.alloc (.cells #[.bool a, .int .i64 al, .int .i64 ah] 23)).alloc (.cells #[.bool b, .int .i64 bl, .int .i64 bh] 23)) (w.heap.size + 1) b bl bh := by have := sp3_new (w.alloc (.cells #[.bool a, .int .i64 al, .int .i64 ah] 23)) b bl bh 23; simpa using this
  have hB0 : Below w.heap.size w ((w.alloc (.cells #[.bool a, .int .i64 al, .int .i64 ah] 23)).alloc (.cells #[.bool b, .int .i64 bl, .int .i64 bh] 23)) := by go_grown
  generalize ((w.alloc (.cells #[.bool a, .int .i64 al, .int .i64 ah] 23)).alloc (.cells #[.bool b, .int .i64 bl, .int .i64 bh] 23)) = w0 at spA spB hB0 ⊢
  go_cut [9, 10] (fun s9 s10 x => ∃ m k : Nat, s9 = .pointer (some ⟨m, 0, none⟩) ∧ s10 = .pointer (some ⟨k, 0, none⟩) ∧ Below w.heap.size w x ∧ Sp3 x w.heap.size a al ah ∧ Sp3 x (w.heap.size + 1) b bl bh ∧ Sp3 x m j1 j2 j3 ∧ Sp3 x k i1 i2 i3)
  case first =>
    refine wp_region_inv (by kernel_rfl) (by kernel_rfl) (WI (fun s14 s15 s16 s17 s18 s19 s20 s13 s21 s22 s9 s10 => ⟨#[.int .i64 op, .agg #[.bool a, .int .i64 al, .int .i64 ah], .agg #[.bool b, .int .i64 bl, .int .i64 bh], .bool yes, undef, .pointer (some ⟨w.heap.size, 0, none⟩), .pointer (some ⟨w.heap.size + 1, 0, none⟩), undef, .bool false, s9, s10, undef, undef, s13, s14, s15, s16, s17, s18, s19, s20, s21, s22, undef, undef, undef, undef, undef, undef, undef, undef, undef, undef, undef, undef, undef, undef, undef, undef, undef, undef, undef, undef], []⟩) w0 (.int .i64 op) (.agg #[.bool a, .int .i64 al, .int .i64 ah]) (.agg #[.bool a, .int .i64 al, .int .i64 ah]) (.agg #[.bool b, .int .i64 bl, .int .i64 bh]) (.agg #[.bool b, .int .i64 bl, .int .i64 bh]) (.bool yes) (.tuple #[.agg #[.bool j1, .int .i64 j2, .int .i64 j3], .agg #[.bool i1, .int .i64 i2, .int .i64 i3]]) (.tuple #[.agg #[.bool j1, .int .i64 j2, .int .i64 j3], .agg #[.bool i1, .int .i64 i2, .int .i64 i3]]) (.agg #[.bool j1, .int .i64 j2, .int .i64 j3]) (.agg #[.bool i1, .int .i64 i2, .int .i64 i3]) (j1, j2, j3) (i1, i2, i3)) ?start ?step ?fin
    case start =>
      exact ⟨false, false, false, false, false, false, false, false, false, false, false, false, false, false, _, _, _, _, _, _, _, _, _, _, _, _, rfl, rfl, Below.drew (Below.refl _ _), (fun h => by cases h), (fun h => by cases h), (fun h => by cases h), (fun h => by cases h), (fun h => by cases h), (fun h => by cases h), (fun h => by cases h), (fun h => by cases h), (fun h => by cases h), (fun h => by cases h), PF.non, PF.non, (fun h => by cases h)⟩
    case step =>
      intro listed a x hI i o ho hun hpre
      obtain ⟨b0, b1, b2, b3, b4, b5, b6, b7, b8, b9, b10, b11, b12, b13, s14, s15, s16, s17, s18, s19, s20, s13, s21, s22, s9, s10, rfl, rfl, hB, h0, h1, h2, h3, h4, h5, h6, h7, h8, h9, p0, p1, g01⟩ := hI
      rcases i with _ | i
      · obtain rfl := Option.some.inj ho
        refine wpOp_of ho rfl fun K hK => ?_
        clear ho hpre
        go_simp
        exact hK _ _ ⟨true, b1, b2, b3, b4, b5, b6, b7, b8, b9, b10, b11, b12, b13, _, s15, s16, s17, s18, s19, s20, s13, s21, s22, s9, s10, rfl, rfl, hB, fun _ => rfl, h1, h2, h3, h4, h5, h6, h7, h8, h9, p0, p1, g01⟩
      rcases i with _ | i
      · obtain rfl := Option.some.inj ho
        refine wpOp_of ho rfl fun K hK => ?_
        clear ho hpre
        obtain ⟨n, c0, c1, c2, f0, f1, f2⟩ := spA.later hB
        go_simp
        exact hK _ _ ⟨b0, true, b2, b3, b4, b5, b6, b7, b8, b9, b10, b11, b12, b13, s14, _, s16, s17, s18, s19, s20, s13, s21, s22, s9, s10, rfl, rfl, hB, h0, fun _ => rfl, h2, h3, h4, h5, h6, h7, h8, h9, p0, p1, g01⟩
      rcases i with _ | i
      · obtain rfl := Option.some.inj ho
        have q1 : b1 = true := hpre ⟨1, .data⟩ (by simp) rfl
        have e1 := h1 q1
        subst e1
        refine wpOp_of ho rfl fun K hK => ?_
        clear ho hpre
        go_simp
        refine (toSpan_any _ _ _ _).mono ?_
        rintro e w' ⟨rfl, hb⟩
        exact hK _ _ ⟨b0, b1, true, b3, b4, b5, b6, b7, b8, b9, b10, b11, b12, b13, s14, _, _, s17, s18, s19, s20, s13, s21, s22, s9, s10, rfl, rfl, hB.trans (hb.mono hB.size), h0, h1, fun _ => rfl, h3, h4, h5, h6, h7, h8, h9, p0.later hb, p1.later hb, g01⟩
      rcases i with _ | i
      · obtain rfl := Option.some.inj ho
        refine wpOp_of ho rfl fun K hK => ?_
        clear ho hpre
        obtain ⟨n, c0, c1, c2, f0, f1, f2⟩ := spB.later hB
        go_simp
        exact hK _ _ ⟨b0, b1, b2, true, b4, b5, b6, b7, b8, b9, b10, b11, b12, b13, s14, s15, s16, _, s18, s19, s20, s13, s21, s22, s9, s10, rfl, rfl, hB, h0, h1, h2, fun _ => rfl, h4, h5, h6, h7, h8, h9, p0, p1, g01⟩
      rcases i with _ | i
      · obtain rfl := Option.some.inj ho
        have q3 : b3 = true := hpre ⟨3, .data⟩ (by simp) rfl
        have e3 := h3 q3
        subst e3
        refine wpOp_of ho rfl fun K hK => ?_
        clear ho hpre
        go_simp
        refine (toSpan_any _ _ _ _).mono ?_
        rintro e w' ⟨rfl, hb⟩
        exact hK _ _ ⟨b0, b1, b2, b3, true, b5, b6, b7, b8, b9, b10, b11, b12, b13, s14, s15, s16, _, _, s19, s20, s13, s21, s22, s9, s10, rfl, rfl, hB.trans (hb.mono hB.size), h0, h1, h2, h3, fun _ => rfl, h5, h6, h7, h8, h9, p0.later hb, p1.later hb, g01⟩
      rcases i with _ | i
      · obtain rfl := Option.some.inj ho
        refine wpOp_of ho rfl fun K hK => ?_
        clear ho hpre
        go_simp
        exact hK _ _ ⟨b0, b1, b2, b3, b4, true, b6, b7, b8, b9, b10, b11, b12, b13, s14, s15, s16, s17, s18, _, s20, s13, s21, s22, s9, s10, rfl, rfl, hB, h0, h1, h2, h3, h4, fun _ => rfl, h6, h7, h8, h9, p0, p1, g01⟩
      rcases i with _ | i
      · obtain rfl := Option.some.inj ho
        have q0 : b0 = true := hpre ⟨0, .data⟩ (by simp) rfl
        have e0 := h0 q0
        subst e0
        have q2 : b2 = true := hpre ⟨2, .data⟩ (by simp) rfl
        have e2 := h2 q2
        subst e2
        have q4 : b4 = true := hpre ⟨4, .data⟩ (by simp) rfl
        have e4 := h4 q4
        subst e4
        have q5 : b5 = true := hpre ⟨5, .data⟩ (by simp) rfl
        have e5 := h5 q5
        subst e5
        refine wpOp_of ho rfl fun K hK => ?_
        clear ho hpre
        go_simp
        refine (Js.out _).mono ?_
        rintro e w' ⟨rfl, hb⟩
        exact hK _ _ ⟨b0, b1, b2, b3, b4, b5, true, b7, b8, b9, b10, b11, b12, b13, _, s15, _, s17, _, _, _, s13, s21, s22, s9, s10, rfl, rfl, hB.trans (hb.mono hB.size), h0, h1, h2, h3, h4, h5, fun _ => rfl, h7, h8, h9, p0.later hb, p1.later hb, g01⟩
      rcases i with _ | i
      · obtain rfl := Option.some.inj ho
        have q6 : b6 = true := hpre ⟨6, .data⟩ (by simp) rfl
        have e6 := h6 q6
        subst e6
        refine wpOp_of ho rfl fun K hK => ?_
        clear ho hpre
        go_simp
        exact hK _ _ ⟨b0, b1, b2, b3, b4, b5, b6, true, b8, b9, b10, b11, b12, b13, s14, s15, s16, s17, s18, s19, _, _, s21, s22, s9, s10, rfl, rfl, hB, h0, h1, h2, h3, h4, h5, h6, fun _ => rfl, h8, h9, p0, p1, g01⟩
      rcases i with _ | i
      · obtain rfl := Option.some.inj ho
        have q7 : b7 = true := hpre ⟨7, .data⟩ (by simp) rfl
        have e7 := h7 q7
        subst e7
        refine wpOp_of ho rfl fun K hK => ?_
        clear ho hpre
        go_simp
        exact hK _ _ ⟨b0, b1, b2, b3, b4, b5, b6, b7, true, b9, b10, b11, b12, b13, s14, s15, s16, s17, s18, s19, s20, _, _, s22, s9, s10, rfl, rfl, hB, h0, h1, h2, h3, h4, h5, h6, h7, fun _ => rfl, h9, p0, p1, g01⟩
      rcases i with _ | i
      · obtain rfl := Option.some.inj ho
        have q7 : b7 = true := hpre ⟨7, .data⟩ (by simp) rfl
        have e7 := h7 q7
        subst e7
        refine wpOp_of ho rfl fun K hK => ?_
        clear ho hpre
        go_simp
        exact hK _ _ ⟨b0, b1, b2, b3, b4, b5, b6, b7, b8, true, b10, b11, b12, b13, s14, s15, s16, s17, s18, s19, s20, _, s21, _, s9, s10, rfl, rfl, hB, h0, h1, h2, h3, h4, h5, h6, h7, h8, fun _ => rfl, p0, p1, g01⟩
      rcases i with _ | i
      · obtain rfl := Option.some.inj ho
        refine wpOp_of ho rfl fun K hK => ?_
        clear ho hpre
        have e : b10 = false := hun
        subst e
        clear hun
        go_simp
        exact hK _ _ ⟨b0, b1, b2, b3, b4, b5, b6, b7, b8, b9, true, b11, b12, b13, s14, s15, s16, s17, s18, s19, s20, s13, s21, s22, _, s10, rfl, rfl, hB.alloc hB.size _, h0, h1, h2, h3, h4, h5, h6, h7, h8, h9, p0.made hB _ _ _, p1.later (Below.alloc (Below.refl _ _) (Nat.le_refl _) _), Apart2.fst p1⟩
      rcases i with _ | i
      · obtain rfl := Option.some.inj ho
        refine wpOp_of ho rfl fun K hK => ?_
        clear ho hpre
        have e : b11 = false := hun
        subst e
        clear hun
        go_simp
        exact hK _ _ ⟨b0, b1, b2, b3, b4, b5, b6, b7, b8, b9, b10, true, b12, b13, s14, s15, s16, s17, s18, s19, s20, s13, s21, s22, s9, _, rfl, rfl, hB.alloc hB.size _, h0, h1, h2, h3, h4, h5, h6, h7, h8, h9, p0.later (Below.alloc (Below.refl _ _) (Nat.le_refl _) _), p1.made hB _ _ _, Apart2.snd p0⟩
      rcases i with _ | i
      · obtain rfl := Option.some.inj ho
        have q10 : b10 = true := hpre ⟨10, .data⟩ (by simp) rfl
        have q8 : b8 = true := hpre ⟨8, .data⟩ (by simp) rfl
        have e8 := h8 q8
        subst e8
        refine wpOp_of ho rfl fun K hK => ?_
        clear ho hpre
        obtain ⟨m, a0, l0, u0, e0, hm, sp, _⟩ := p0.at_ q10
        subst e0
        subst q10
        obtain ⟨n, c0, c1, c2, f0, f1, f2⟩ := id sp
        go_simp
        exact hK _ _ ⟨b0, b1, b2, b3, b4, b5, b6, b7, b8, b9, true, b11, true, b13, s14, s15, s16, s17, s18, s19, s20, s13, _, s22, _, s10, rfl, rfl, below_set3 hB hm, h0, h1, h2, h3, h4, h5, h6, h7, h8, h9, PF.set hm sp, PF.off p1 (fun q e => g01 rfl q m rfl e), g01⟩
      rcases i with _ | i
      · obtain rfl := Option.some.inj ho
        have q11 : b11 = true := hpre ⟨11, .data⟩ (by simp) rfl
        have q9 : b9 = true := hpre ⟨9, .data⟩ (by simp) rfl
        have e9 := h9 q9
        subst e9
        refine wpOp_of ho rfl fun K hK => ?_
        clear ho hpre
        obtain ⟨m, a0, l0, u0, e0, hm, sp, _⟩ := p1.at_ q11
        subst e0
        subst q11
        obtain ⟨n, c0, c1, c2, f0, f1, f2⟩ := id sp
        go_simp
        exact hK _ _ ⟨b0, b1, b2, b3, b4, b5, b6, b7, b8, b9, b10, true, b12, true, s14, s15, s16, s17, s18, s19, s20, s13, s21, _, s9, _, rfl, rfl, below_set3 hB hm, h0, h1, h2, h3, h4, h5, h6, h7, h8, h9, PF.off p0 (fun q e => g01 q rfl m e rfl), PF.set hm sp, g01⟩
      cases ho
    case fin =>
      intro listed a x hI hall
      obtain ⟨b0, b1, b2, b3, b4, b5, b6, b7, b8, b9, b10, b11, b12, b13, s14, s15, s16, s17, s18, s19, s20, s13, s21, s22, s9, s10, rfl, rfl, hB, h0, h1, h2, h3, h4, h5, h6, h7, h8, h9, p0, p1, g01⟩ := hI
      have q10 : b10 = true := hall 10 (by simp)
      have q11 : b11 = true := hall 11 (by simp)
      have q12 : b12 = true := hall 12 (by simp)
      have q13 : b13 = true := hall 13 (by simp)
      obtain ⟨m0, a0, l0, u0, e0, hm0, sp0, hv0⟩ := p0.at_ q10
      have hv := hv0 q12
      obtain ⟨rfl, rfl, rfl⟩ : a0 = (j1, j2, j3).1 ∧ l0 = (j1, j2, j3).2.1 ∧ u0 = (j1, j2, j3).2.2 := by rw [← hv]; exact ⟨rfl, rfl, rfl⟩
      clear hv hv0
      subst e0
      obtain ⟨m1, a1, l1, u1, e1, hm1, sp1, hv1⟩ := p1.at_ q11
      have hv := hv1 q13
      obtain ⟨rfl, rfl, rfl⟩ : a1 = (i1, i2, i3).1 ∧ l1 = (i1, i2, i3).2.1 ∧ u1 = (i1, i2, i3).2.2 := by rw [← hv]; exact ⟨rfl, rfl, rfl⟩
      clear hv hv1
      subst e1
      go_wp2_with fail
      go_meet
      exact ⟨m0, m1, rfl, rfl, hB0.trans (hB.mono hB0.size), spA.later hB, spB.later hB, sp0, sp1⟩
  case rest =>
  obtain ⟨m, k, rfl, rfl, hB1, spA1, spB1, spm, spk⟩ := hcut
  clear spA spB hB0
  go_wp2_with fail
  go_cut [11, 12] (fun s11 s12 x => ∃ m' k' : Nat, s11 = .pointer (some ⟨m', 0, none⟩) ∧ s12 = .pointer (some ⟨k', 0, none⟩) ∧ Below w.heap.size w x ∧ Sp3 x m j1 j2 j3 ∧ Sp3 x k i1 i2 i3 ∧ Sp3 x m' j1 j2 j3 ∧ Sp3 x k' i1 i2 i3)
  case first =>
    refine wp_region_inv (by kernel_rfl) (by kernel_rfl) (WI (fun s24 s25 s26 s27 s28 s29 s30 s23 s31 s32 s11 s12 => ⟨#[.int .i64 op, .agg #[.bool a, .int .i64 al, .int .i64 ah], .agg #[.bool b, .int .i64 bl, .int .i64 bh], .bool yes, undef, .pointer (some ⟨w.heap.size, 0, none⟩), .pointer (some ⟨w.heap.size + 1, 0, none⟩), undef, .bool false, .pointer (some ⟨m, 0, none⟩), .pointer (some ⟨k, 0, none⟩), s11, s12, u13, u14, u15, u16, u17, u18, u19, u20, u21, u22, s23, s24, s25, s26, s27, s28, s29, s30, s31, s32, u33, u34, u35, u36, u37, u38, u39, u40, u41, u42], []⟩) wc (.int .i64 op) (.agg #[.bool a, .int .i64 al, .int .i64 ah]) (.agg #[.bool a, .int .i64 al, .int .i64 ah]) (.agg #[.bool b, .int .i64 bl, .int .i64 bh]) (.agg #[.bool b, .int .i64 bl, .int .i64 bh]) (.bool yes) (.tuple #[.agg #[.bool j1, .int .i64 j2, .int .i64 j3], .agg #[.bool i1, .int .i64 i2, .int .i64 i3]]) (.tuple #[.agg #[.bool j1, .int .i64 j2, .int .i64 j3], .agg #[.bool i1, .int .i64 i2, .int .i64 i3]]) (.agg #[.bool j1, .int .i64 j2, .int .i64 j3]) (.agg #[.bool i1, .int .i64 i2, .int .i64 i3]) (j1, j2, j3) (i1, i2, i3)) ?start ?step ?fin
    case start =>
      exact ⟨false, false, false, false, false, false, false, false, false, false, false, false, false, false, _, _, _, _, _, _, _, _, _, _, _, _, rfl, rfl, Below.drew (Below.refl _ _), (fun h => by cases h), (fun h => by cases h), (fun h => by cases h), (fun h => by cases h), (fun h => by cases h), (fun h => by cases h), (fun h => by cases h), (fun h => by cases h), (fun h => by cases h), (fun h => by cases h), PF.non, PF.non, (fun h => by cases h)⟩
    case step =>
      intro listed a x hI i o ho hun hpre
      obtain ⟨b0, b1, b2, b3, b4, b5, b6, b7, b8, b9, b10, b11, b12, b13, s24, s25, s26, s27, s28, s29, s30, s23, s31, s32, s11, s12, rfl, rfl, hB, h0, h1, h2, h3, h4, h5, h6, h7, h8, h9, p0, p1, g01⟩ := hI
      rcases i with _ | i
      · obtain rfl := Option.some.inj ho
        refine wpOp_of ho rfl fun K hK => ?_
        clear ho hpre
        go_simp
        exact hK _ _ ⟨true, b1, b2, b3, b4, b5, b6, b7, b8, b9, b10, b11, b12, b13, _, s25, s26, s27, s28, s29, s30, s23, s31, s32, s11, s12, rfl, rfl, hB, fun _ => rfl, h1, h2, h3, h4, h5, h6, h7, h8, h9, p0, p1, g01⟩
      rcases i with _ | i
      · obtain rfl := Option.some.inj ho
        refine wpOp_of ho rfl fun K hK => ?_
        clear ho hpre
        obtain ⟨n, c0, c1, c2, f0, f1, f2⟩ := spA1.later hB
        go_simp
        exact hK _ _ ⟨b0, true, b2, b3, b4, b5, b6, b7, b8, b9, b10, b11, b12, b13, s24, _, s26, s27, s28, s29, s30, s23, s31, s32, s11, s12, rfl, rfl, hB, h0, fun _ => rfl, h2, h3, h4, h5, h6, h7, h8, h9, p0, p1, g01⟩
      rcases i with _ | i
      · obtain rfl := Option.some.inj ho
        have q1 : b1 = true := hpre ⟨1, .data⟩ (by simp) rfl
        have e1 := h1 q1
        subst e1
        refine wpOp_of ho rfl fun K hK => ?_
        clear ho hpre
        go_simp
        refine (toSpan_any _ _ _ _).mono ?_
        rintro e w' ⟨rfl, hb⟩
        exact hK _ _ ⟨b0, b1, true, b3, b4, b5, b6, b7, b8, b9, b10, b11, b12, b13, s24, _, _, s27, s28, s29, s30, s23, s31, s32, s11, s12, rfl, rfl, hB.trans (hb.mono hB.size), h0, h1, fun _ => rfl, h3, h4, h5, h6, h7, h8, h9, p0.later hb, p1.later hb, g01⟩
      rcases i with _ | i
      · obtain rfl := Option.some.inj ho
        refine wpOp_of ho rfl fun K hK => ?_
        clear ho hpre
        obtain ⟨n, c0, c1, c2, f0, f1, f2⟩ := spB1.later hB
        go_simp
        exact hK _ _ ⟨b0, b1, b2, true, b4, b5, b6, b7, b8, b9, b10, b11, b12, b13, s24, s25, s26, _, s28, s29, s30, s23, s31, s32, s11, s12, rfl, rfl, hB, h0, h1, h2, fun _ => rfl, h4, h5, h6, h7, h8, h9, p0, p1, g01⟩
      rcases i with _ | i
      · obtain rfl := Option.some.inj ho
        have q3 : b3 = true := hpre ⟨3, .data⟩ (by simp) rfl
        have e3 := h3 q3
        subst e3
        refine wpOp_of ho rfl fun K hK => ?_
        clear ho hpre
        go_simp
        refine (toSpan_any _ _ _ _).mono ?_
        rintro e w' ⟨rfl, hb⟩
        exact hK _ _ ⟨b0, b1, b2, b3, true, b5, b6, b7, b8, b9, b10, b11, b12, b13, s24, s25, s26, _, _, s29, s30, s23, s31, s32, s11, s12, rfl, rfl, hB.trans (hb.mono hB.size), h0, h1, h2, h3, fun _ => rfl, h5, h6, h7, h8, h9, p0.later hb, p1.later hb, g01⟩
      rcases i with _ | i
      · obtain rfl := Option.some.inj ho
        refine wpOp_of ho rfl fun K hK => ?_
        clear ho hpre
        go_simp
        exact hK _ _ ⟨b0, b1, b2, b3, b4, true, b6, b7, b8, b9, b10, b11, b12, b13, s24, s25, s26, s27, s28, _, s30, s23, s31, s32, s11, s12, rfl, rfl, hB, h0, h1, h2, h3, h4, fun _ => rfl, h6, h7, h8, h9, p0, p1, g01⟩
      rcases i with _ | i
      · obtain rfl := Option.some.inj ho
        have q0 : b0 = true := hpre ⟨0, .data⟩ (by simp) rfl
        have e0 := h0 q0
        subst e0
        have q2 : b2 = true := hpre ⟨2, .data⟩ (by simp) rfl
        have e2 := h2 q2
        subst e2
        have q4 : b4 = true := hpre ⟨4, .data⟩ (by simp) rfl
        have e4 := h4 q4
        subst e4
        have q5 : b5 = true := hpre ⟨5, .data⟩ (by simp) rfl
        have e5 := h5 q5
        subst e5
        refine wpOp_of ho rfl fun K hK => ?_
        clear ho hpre
        go_simp
        refine (Ji.out _).mono ?_
        rintro e w' ⟨rfl, hb⟩
        exact hK _ _ ⟨b0, b1, b2, b3, b4, b5, true, b7, b8, b9, b10, b11, b12, b13, _, s25, _, s27, _, _, _, s23, s31, s32, s11, s12, rfl, rfl, hB.trans (hb.mono hB.size), h0, h1, h2, h3, h4, h5, fun _ => rfl, h7, h8, h9, p0.later hb, p1.later hb, g01⟩
      rcases i with _ | i
      · obtain rfl := Option.some.inj ho
        have q6 : b6 = true := hpre ⟨6, .data⟩ (by simp) rfl
        have e6 := h6 q6
        subst e6
        refine wpOp_of ho rfl fun K hK => ?_
        clear ho hpre
        go_simp
        exact hK _ _ ⟨b0, b1, b2, b3, b4, b5, b6, true, b8, b9, b10, b11, b12, b13, s24, s25, s26, s27, s28, s29, _, _, s31, s32, s11, s12, rfl, rfl, hB, h0, h1, h2, h3, h4, h5, h6, fun _ => rfl, h8, h9, p0, p1, g01⟩
      rcases i with _ | i
      · obtain rfl := Option.some.inj ho
        have q7 : b7 = true := hpre ⟨7, .data⟩ (by simp) rfl
        have e7 := h7 q7
        subst e7
        refine wpOp_of ho rfl fun K hK => ?_
        clear ho hpre
        go_simp
        exact hK _ _ ⟨b0, b1, b2, b3, b4, b5, b6, b7, true, b9, b10, b11, b12, b13, s24, s25, s26, s27, s28, s29, s30, _, _, s32, s11, s12, rfl, rfl, hB, h0, h1, h2, h3, h4, h5, h6, h7, fun _ => rfl, h9, p0, p1, g01⟩
      rcases i with _ | i
      · obtain rfl := Option.some.inj ho
        have q7 : b7 = true := hpre ⟨7, .data⟩ (by simp) rfl
        have e7 := h7 q7
        subst e7
        refine wpOp_of ho rfl fun K hK => ?_
        clear ho hpre
        go_simp
        exact hK _ _ ⟨b0, b1, b2, b3, b4, b5, b6, b7, b8, true, b10, b11, b12, b13, s24, s25, s26, s27, s28, s29, s30, _, s31, _, s11, s12, rfl, rfl, hB, h0, h1, h2, h3, h4, h5, h6, h7, h8, fun _ => rfl, p0, p1, g01⟩
      rcases i with _ | i
      · obtain rfl := Option.some.inj ho
        refine wpOp_of ho rfl fun K hK => ?_
        clear ho hpre
        have e : b10 = false := hun
        subst e
        clear hun
        go_simp
        exact hK _ _ ⟨b0, b1, b2, b3, b4, b5, b6, b7, b8, b9, true, b11, b12, b13, s24, s25, s26, s27, s28, s29, s30, s23, s31, s32, _, s12, rfl, rfl, hB.alloc hB.size _, h0, h1, h2, h3, h4, h5, h6, h7, h8, h9, p0.made hB _ _ _, p1.later (Below.alloc (Below.refl _ _) (Nat.le_refl _) _), Apart2.fst p1⟩
      rcases i with _ | i
      · obtain rfl := Option.some.inj ho
        refine wpOp_of ho rfl fun K hK => ?_
        clear ho hpre
        have e : b11 = false := hun
        subst e
        clear hun
        go_simp
        exact hK _ _ ⟨b0, b1, b2, b3, b4, b5, b6, b7, b8, b9, b10, true, b12, b13, s24, s25, s26, s27, s28, s29, s30, s23, s31, s32, s11, _, rfl, rfl, hB.alloc hB.size _, h0, h1, h2, h3, h4, h5, h6, h7, h8, h9, p0.later (Below.alloc (Below.refl _ _) (Nat.le_refl _) _), p1.made hB _ _ _, Apart2.snd p0⟩
      rcases i with _ | i
      · obtain rfl := Option.some.inj ho
        have q10 : b10 = true := hpre ⟨10, .data⟩ (by simp) rfl
        have q8 : b8 = true := hpre ⟨8, .data⟩ (by simp) rfl
        have e8 := h8 q8
        subst e8
        refine wpOp_of ho rfl fun K hK => ?_
        clear ho hpre
        obtain ⟨m, a0, l0, u0, e0, hm, sp, _⟩ := p0.at_ q10
        subst e0
        subst q10
        obtain ⟨n, c0, c1, c2, f0, f1, f2⟩ := id sp
        go_simp
        exact hK _ _ ⟨b0, b1, b2, b3, b4, b5, b6, b7, b8, b9, true, b11, true, b13, s24, s25, s26, s27, s28, s29, s30, s23, _, s32, _, s12, rfl, rfl, below_set3 hB hm, h0, h1, h2, h3, h4, h5, h6, h7, h8, h9, PF.set hm sp, PF.off p1 (fun q e => g01 rfl q m rfl e), g01⟩
      rcases i with _ | i
      · obtain rfl := Option.some.inj ho
        have q11 : b11 = true := hpre ⟨11, .data⟩ (by simp) rfl
        have q9 : b9 = true := hpre ⟨9, .data⟩ (by simp) rfl
        have e9 := h9 q9
        subst e9
        refine wpOp_of ho rfl fun K hK => ?_
        clear ho hpre
        obtain ⟨m, a0, l0, u0, e0, hm, sp, _⟩ := p1.at_ q11
        subst e0
        subst q11
        obtain ⟨n, c0, c1, c2, f0, f1, f2⟩ := id sp
        go_simp
        exact hK _ _ ⟨b0, b1, b2, b3, b4, b5, b6, b7, b8, b9, b10, true, b12, true, s24, s25, s26, s27, s28, s29, s30, s23, s31, _, s11, _, rfl, rfl, below_set3 hB hm, h0, h1, h2, h3, h4, h5, h6, h7, h8, h9, PF.off p0 (fun q e => g01 q rfl m e rfl), PF.set hm sp, g01⟩
      cases ho
    case fin =>
      intro listed a x hI hall
      obtain ⟨b0, b1, b2, b3, b4, b5, b6, b7, b8, b9, b10, b11, b12, b13, s24, s25, s26, s27, s28, s29, s30, s23, s31, s32, s11, s12, rfl, rfl, hB, h0, h1, h2, h3, h4, h5, h6, h7, h8, h9, p0, p1, g01⟩ := hI
      have q10 : b10 = true := hall 10 (by simp)
      have q11 : b11 = true := hall 11 (by simp)
      have q12 : b12 = true := hall 12 (by simp)
      have q13 : b13 = true := hall 13 (by simp)
      obtain ⟨m0, a0, l0, u0, e0, hm0, sp0, hv0⟩ := p0.at_ q10
      have hv := hv0 q12
      obtain ⟨rfl, rfl, rfl⟩ : a0 = (j1, j2, j3).1 ∧ l0 = (j1, j2, j3).2.1 ∧ u0 = (j1, j2, j3).2.2 := by rw [← hv]; exact ⟨rfl, rfl, rfl⟩
      clear hv hv0
      subst e0
      obtain ⟨m1, a1, l1, u1, e1, hm1, sp1, hv1⟩ := p1.at_ q11
      have hv := hv1 q13
      obtain ⟨rfl, rfl, rfl⟩ : a1 = (i1, i2, i3).1 ∧ l1 = (i1, i2, i3).2.1 ∧ u1 = (i1, i2, i3).2.2 := by rw [← hv]; exact ⟨rfl, rfl, rfl⟩
      clear hv hv1
      subst e1
      go_wp2_with fail
      go_meet
      exact ⟨m0, m1, rfl, rfl, hB1.trans (hB.mono hB1.size), spm.later hB, spk.later hB, sp0, sp1⟩
  case rest =>
  obtain ⟨m', k', rfl, rfl, hB2, sp1, sp2, sp3, sp4⟩ := hcut
  clear spA1 spB1 spm spk hB1
  have sp2' := sp2
  have sp4' := sp4
  obtain ⟨n1, c10, c11, c12, f10, f11, f12⟩ := sp1
  obtain ⟨n3, c30, c31, c32, f30, f31, f32⟩ := sp3
  obtain ⟨n2, c20, c21, c22, f20, f21, f22⟩ := sp2
  obtain ⟨n4, c40, c41, c42, f40, f41, f42⟩ := sp4
  go_wp2_with fail
  refine (eqSpan_same _ _ _ _).mono ?_
  rintro e w5 ⟨rfl, hb5⟩
  have t2 := sp2'.later hb5
  have t4 := sp4'.later hb5
  have hB5 := hB2.trans (hb5.mono hB2.size)
  clear n1 c10 c11 c12 f10 f11 f12 n2 c20 c21 c22 f20 f21 f22 n3 c30 c31 c32 f30 f31 f32 n4 c40 c41 c42 f40 f41 f42
  obtain ⟨n2, c20, c21, c22, f20, f21, f22⟩ := t2
  obtain ⟨n4, c40, c41, c42, f40, f41, f42⟩ := t4
  go_wp2_with fail
  refine (eqSpan_same _ _ _ _).mono ?_
  rintro e w6 ⟨rfl, hb6⟩
  have hB6 := hB5.trans (hb6.mono hB5.size)
  clear n2 c20 c21 c22 f20 f21 f22 n4 c40 c41 c42 f40 f41 f42
  go_wp2_with fail
  go_ret
  exact ⟨rfl, by assumption⟩

end Go.Proofs.Ytlnfjjciilieeaa
