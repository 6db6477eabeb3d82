/-
  The walk of the law FnDoMore.
-/
import Derived.Test.YtlnfjjciilieeaaOfP
import Derived.Test.YtlnfjjciilieeaaDrawM
import Derived.Test.YtlnfjjciilieeaaFix
import Derived.Test.YtlnfjjciilieeaaInv2
import Derived.Deep.DeepCutAuto
namespace Go.Proofs.Ytlnfjjciilieeaa
open Go.RowKit
set_option linter.unusedVariables false
set_option linter.unusedSimpArgs false

def DM6 (mk : Value → Value → Value → Value → Value → Value → Value → Value → Value → Value → Value → Value → Value → Value → Value → Value → Value → Value → Value → Value → Value → Value → Value → Value → Value → Value → Act) (w0 : World) (V0 V1 V2 V3 V4 V5 V6 V7 V8 V9 V10 V11 V12 V13 V14 V15 V16 V17 V18 V19 V20 V21 V22 V23 V24 V25 : Value) (listed : Array Bool) (a : Act) (x : World) : Prop :=
  ∃ (b0 b1 b2 b3 b4 b5 b6 b7 b8 b9 b10 b11 b12 b13 b14 b15 b16 b17 b18 b19 b20 b21 b22 b23 b24 b25 : Bool) (s34 s35 s36 s37 s38 s39 s40 s41 s42 s43 s44 s45 s46 s47 s48 s49 s50 s51 s52 s53 s54 s55 s56 s57 s58 s59 : Value), listed = #[b0, b1, b2, b3, b4, b5, b6, b7, b8, b9, b10, b11, b12, b13, b14, b15, b16, b17, b18, b19, b20, b21, b22, b23, b24, b25] ∧ a = mk s34 s35 s36 s37 s38 s39 s40 s41 s42 s43 s44 s45 s46 s47 s48 s49 s50 s51 s52 s53 s54 s55 s56 s57 s58 s59 ∧ Below w0.heap.size w0 x ∧ Sl b0 s34 V0 ∧ Sl b1 s35 V1 ∧ Sl b2 s36 V2 ∧ Sl b3 s37 V3 ∧ Sl b4 s38 V4 ∧ Sl b5 s39 V5 ∧ Sl b6 s40 V6 ∧ Sl b7 s41 V7 ∧ Sl b8 s42 V8 ∧ Sl b9 s43 V9 ∧ Sl b10 s44 V10 ∧ Sl b11 s45 V11 ∧ Sl b12 s46 V12 ∧ Sl b13 s47 V13 ∧ Sl b14 s48 V14 ∧ Sl b15 s49 V15 ∧ Sl b16 s50 V16 ∧ Sl b17 s51 V17 ∧ Sl b18 s52 V18 ∧ Sl b19 s53 V19 ∧ Sl b20 s54 V20 ∧ Sl b21 s55 V21 ∧ Sl b22 s56 V22 ∧ Sl b23 s57 V23 ∧ Sl b24 s58 V24 ∧ Sl b25 s59 V25
def DM7 (mk : Value → Value → Value → Value → Value → Value → Value → Act) (w0 : World) (V0 V1 V2 V3 V4 V5 V6 : Value) (listed : Array Bool) (a : Act) (x : World) : Prop :=
  ∃ (b0 b1 b2 b3 b4 b5 b6 : Bool) (s60 s61 s62 s63 s64 s65 s4 : Value), listed = #[b0, b1, b2, b3, b4, b5, b6] ∧ a = mk s60 s61 s62 s63 s64 s65 s4 ∧ Below w0.heap.size w0 x ∧ Sl b0 s60 V0 ∧ Sl b1 s61 V1 ∧ Sl b2 s62 V2 ∧ Sl b3 s63 V3 ∧ Sl b4 s64 V4 ∧ Sl b5 s65 V5 ∧ Sl b6 s4 V6
def DM8 (mk : Value → Value → Value → Value → Value → Value → Value → Value → Value → Value → Value → Act) (w0 : World) (V0 V1 V2 V3 V4 V5 V6 V7 V8 V9 V10 : Value) (listed : Array Bool) (a : Act) (x : World) : Prop :=
  ∃ (b0 b1 b2 b3 b4 b5 b6 b7 b8 b9 b10 : Bool) (s66 s67 s68 s69 s70 s71 s72 s73 s74 s75 s4 : Value), listed = #[b0, b1, b2, b3, b4, b5, b6, b7, b8, b9, b10] ∧ a = mk s66 s67 s68 s69 s70 s71 s72 s73 s74 s75 s4 ∧ Below w0.heap.size w0 x ∧ Sl b0 s66 V0 ∧ Sl b1 s67 V1 ∧ Sl b2 s68 V2 ∧ Sl b3 s69 V3 ∧ Sl b4 s70 V4 ∧ Sl b5 s71 V5 ∧ Sl b6 s72 V6 ∧ Sl b7 s73 V7 ∧ Sl b8 s74 V8 ∧ Sl b9 s75 V9 ∧ Sl b10 s4 V10

set_option maxRecDepth 100000 in
set_option maxHeartbeats 8000000 in
theorem doMore_walk (a0 : Option Addr) (len0 cap0 : Nat) (z0 : List Int) (a1 : Option Addr) (len1 cap1 : Nat) (z1 : List Int) (w : World) (h0 : IsRow w a0 len0 cap0 z0) (h1 : IsRow w a1 len1 cap1 z1) :
    Calls Try.prog 7 #[.slice a0 len0 cap0, .slice a1 len1 cap1] w fun e w' => e = .returned (.bool true) ∧ Below w.heap.size w w' := by
  have hm0 := row_len h0
  have hm1 := row_len h1
  unfold maxLen at hm0 hm1
  by_cases hl0 : (1048576 : Int) < (len0 : Int)
  · clear h0 h1
    go_enter Try.func7, Try.ntmps7
    go_wp2
    go_ret
    exact ⟨rfl, by go_grown⟩
  by_cases hl1 : (1048576 : Int) < (len1 : Int)
  · clear h0 h1
    go_enter Try.func7, Try.ntmps7
    go_wp2
    go_ret
    exact ⟨rfl, by go_grown⟩
  go_enter Try.func7, Try.ntmps7
  go_wp2_with fail
  refine (drawSpanDo_any a0 len0 cap0 z0 _ h0).mono ?_
  rintro e y1 hg
  obtain ⟨op, a, al, ah, b, bl, bh, rfl, _, _, _, _, _, _, _, _, hb⟩ := hg.it
  clear hg h0
  have hB := hb
  clear hb
  replace h1 := IsRow.later h1 hB
  go_wp2_with fail
  have hG : Below y1.heap.size y1 ((y1.alloc (.cells #[.bool a, .int .i64 al, .int .i64 ah] 24)).alloc (.cells #[.bool b, .int .i64 bl, .int .i64 bh] 24)) := by go_grown
  have SA : Sp3 ((y1.alloc (.cells #[.bool a, .int .i64 al, .int .i64 ah] 24)).alloc (.cells #[.bool b, .int .i64 bl, .int .i64 bh] 24)) (y1.heap.size) a al ah := ⟨by go_size, by simp [go_sem], by simp [go_sem], by simp [go_sem], by simp [go_sem], by simp [go_sem], by simp [go_sem]⟩
  have SB : Sp3 ((y1.alloc (.cells #[.bool a, .int .i64 al, .int .i64 ah] 24)).alloc (.cells #[.bool b, .int .i64 bl, .int .i64 bh] 24)) (y1.heap.size + 1) b bl bh := ⟨by go_size, by simp [go_sem], by simp [go_sem], by simp [go_sem], by simp [go_sem], by simp [go_sem], by simp [go_sem]⟩
  replace h1 := IsRow.later h1 hG
  replace hB := hB.trans (hG.mono hB.size)
  clear hG
  generalize hgen : ((y1.alloc (.cells #[.bool a, .int .i64 al, .int .i64 ah] 24)).alloc (.cells #[.bool b, .int .i64 bl, .int .i64 bh] 24)) = y2 at SA SB h1 hB ⊢
  refine (drawSpanJoin_any a1 len1 cap1 z1 _ h1).mono ?_
  rintro e y3 hg
  obtain ⟨c, cl, ch, d, dl, dh, rfl, _, _, _, _, _, _, _, _, hb⟩ := hg.it
  clear hg
  replace SA := SA.later hb
  replace SB := SB.later hb
  replace h1 := IsRow.later h1 hb
  replace hB := hB.trans (hb.mono hB.size)
  clear hb
  clear h1
  obtain ⟨j1, j2, j3, HW, Js, Ji⟩ := do_fix op a al ah b bl bh
  obtain ⟨nA, c0A, c1A, c2A, f0A, f1A, f2A⟩ := id SA
  obtain ⟨nB, c0B, c1B, c2B, f0B, f1B, f2B⟩ := id SB
  go_wp2_with fail
  clear nA c0A c1A c2A f0A f1A f2A nB c0B c1B c2B f0B f1B f2B
  have hG : Below y3.heap.size y3 ((y3.alloc (.cells #[.bool c, .int .i64 cl, .int .i64 ch] 24)).alloc (.cells #[.bool d, .int .i64 dl, .int .i64 dh] 24)) := by go_grown
  replace SA := SA.later hG
  replace SB := SB.later hG
  have SC : Sp3 ((y3.alloc (.cells #[.bool c, .int .i64 cl, .int .i64 ch] 24)).alloc (.cells #[.bool d, .int .i64 dl, .int .i64 dh] 24)) (y3.heap.size) c cl ch := ⟨by go_size, by simp [go_sem], by simp [go_sem], by simp [go_sem], by simp [go_sem], by simp [go_sem], by simp [go_sem]⟩
  have SD : Sp3 ((y3.alloc (.cells #[.bool c, .int .i64 cl, .int .i64 ch] 24)).alloc (.cells #[.bool d, .int .i64 dl, .int .i64 dh] 24)) (y3.heap.size + 1) d dl dh := ⟨by go_size, by simp [go_sem], by simp [go_sem], by simp [go_sem], by simp [go_sem], by simp [go_sem], by simp [go_sem]⟩
  replace hB := hB.trans (hG.mono hB.size)
  clear hG
  generalize hgen : ((y3.alloc (.cells #[.bool c, .int .i64 cl, .int .i64 ch] 24)).alloc (.cells #[.bool d, .int .i64 dl, .int .i64 dh] 24)) = y4 at SA SB SC SD  hB ⊢
  refine (Ji.out _).mono ?_
  rintro e y5 ⟨rfl, hb⟩
  replace SA := SA.later hb
  replace SB := SB.later hb
  replace SC := SC.later hb
  replace SD := SD.later hb
  replace hB := hB.trans (hb.mono hB.size)
  clear hb
  obtain ⟨oa, Hoa⟩ : ∃ o, Hid (okF a al ah = o) := ⟨_, rfl⟩
  obtain ⟨ob, Hob⟩ : ∃ o, Hid (okF b bl bh = o) := ⟨_, rfl⟩
  obtain ⟨oc, Hoc⟩ : ∃ o, Hid (okF c cl ch = o) := ⟨_, rfl⟩
  obtain ⟨od, Hod⟩ : ∃ o, Hid (okF d dl dh = o) := ⟨_, rfl⟩
  obtain ⟨g2, hgg2⟩ : ∃ g, (oa && ob) = g := ⟨_, rfl⟩
  obtain ⟨g3, hgg3⟩ : ∃ g, (g2 && oc) = g := ⟨_, rfl⟩
  obtain ⟨g4, hgg4⟩ : ∃ g, (g3 && od) = g := ⟨_, rfl⟩
  have HG : Hid (g4 = true → oa = true ∧ ob = true ∧ oc = true ∧ od = true) := by intro h; rw [h] at hgg4; simp only [Bool.and_eq_true] at hgg4; obtain ⟨h1, h2⟩ := hgg4; rw [h1] at hgg3; simp only [Bool.and_eq_true] at hgg3; obtain ⟨h3, h4⟩ := hgg3; rw [h3] at hgg2; simp only [Bool.and_eq_true] at hgg2; exact ⟨hgg2.1, hgg2.2, h4, h2⟩
  have HE2 : Hid ((oa && ob) = g2) := hgg2
  have HE3 : Hid ((g2 && oc) = g3) := hgg3
  have HE4 : Hid ((g3 && od) = g4) := hgg4
  clear hgg2 hgg3 hgg4
  go_upto_region 6 with fail
  have hG : Below y5.heap.size y5 (y5.alloc (.cells #[.bool j1, .int .i64 j2, .int .i64 j3] 24)) := by go_grown
  replace SA := SA.later hG
  replace SB := SB.later hG
  replace SC := SC.later hG
  replace SD := SD.later hG
  have SX : Sp3 (y5.alloc (.cells #[.bool j1, .int .i64 j2, .int .i64 j3] 24)) (y5.heap.size) j1 j2 j3 := ⟨by go_size, by simp [go_sem], by simp [go_sem], by simp [go_sem], by simp [go_sem], by simp [go_sem], by simp [go_sem]⟩
  replace hB := hB.trans (hG.mono hB.size)
  clear hG
  generalize hgen : (y5.alloc (.cells #[.bool j1, .int .i64 j2, .int .i64 j3] 24)) = y6 at SA SB SC SD SX  hB ⊢
  have hBo := hB
  go_cut [59] (fun s59 x => s59 = .bool (!g4) ∧ Below w.heap.size w x ∧ Sp3 x (y1.heap.size) a al ah ∧ Sp3 x (y1.heap.size + 1) b bl bh ∧ Sp3 x (y3.heap.size) c cl ch ∧ Sp3 x (y3.heap.size + 1) d dl dh ∧ Sp3 x (y5.heap.size) j1 j2 j3)
  case first =>
    refine wp_region_inv (by kernel_rfl) (by kernel_rfl) (DM6 (fun s34 s35 s36 s37 s38 s39 s40 s41 s42 s43 s44 s45 s46 s47 s48 s49 s50 s51 s52 s53 s54 s55 s56 s57 s58 s59 => ⟨#[Value.slice a0 len0 cap0, Value.slice a1 len1 cap1, undef, undef, Value.bool false, Value.int IntKind.i64 op, Value.pointer (some { block := y1.heap.size, off := 0 }), Value.pointer (some { block := y1.heap.size + 1, off := 0 }), Value.pointer (some { block := y3.heap.size, off := 0 }), Value.pointer (some { block := y3.heap.size + 1, off := 0 }), Value.pointer (some { block := y5.heap.size, off := 0 }), Value.slice a0 len0 cap0, Value.int IntKind.i64 ↑len0, Value.bool false, Value.bool false, Value.slice a1 len1 cap1, Value.int IntKind.i64 ↑len1, Value.bool false, Value.bool false, Value.tuple #[Value.int IntKind.i64 op, Value.agg #[Value.bool a, Value.int IntKind.i64 al, Value.int IntKind.i64 ah], Value.agg #[Value.bool b, Value.int IntKind.i64 bl, Value.int IntKind.i64 bh]], Value.slice a0 len0 cap0, Value.tuple #[Value.int IntKind.i64 op, Value.agg #[Value.bool a, Value.int IntKind.i64 al, Value.int IntKind.i64 ah], Value.agg #[Value.bool b, Value.int IntKind.i64 bl, Value.int IntKind.i64 bh]], Value.int IntKind.i64 op, Value.agg #[Value.bool a, Value.int IntKind.i64 al, Value.int IntKind.i64 ah], Value.agg #[Value.bool b, Value.int IntKind.i64 bl, Value.int IntKind.i64 bh], Value.tuple #[Value.agg #[Value.bool c, Value.int IntKind.i64 cl, Value.int IntKind.i64 ch], Value.agg #[Value.bool d, Value.int IntKind.i64 dl, Value.int IntKind.i64 dh]], Value.slice a1 len1 cap1, Value.tuple #[Value.agg #[Value.bool c, Value.int IntKind.i64 cl, Value.int IntKind.i64 ch], Value.agg #[Value.bool d, Value.int IntKind.i64 dl, Value.int IntKind.i64 dh]], Value.agg #[Value.bool c, Value.int IntKind.i64 cl, Value.int IntKind.i64 ch], Value.agg #[Value.bool d, Value.int IntKind.i64 dl, Value.int IntKind.i64 dh], Value.int IntKind.i64 op, Value.agg #[Value.bool a, Value.int IntKind.i64 al, Value.int IntKind.i64 ah], Value.agg #[Value.bool b, Value.int IntKind.i64 bl, Value.int IntKind.i64 bh], Value.agg #[Value.bool j1, Value.int IntKind.i64 j2, Value.int IntKind.i64 j3], s34, s35, s36, s37, s38, s39, s40, s41, s42, s43, s44, s45, s46, s47, s48, s49, s50, s51, s52, s53, s54, s55, s56, s57, s58, s59, undef, undef, undef, undef, undef, undef, undef, undef, undef, undef, undef, undef, undef, undef, undef, undef], []⟩) y6 (.agg #[.bool j1, .int .i64 j2, .int .i64 j3]) (.int .i64 op) (.agg #[.bool a, .int .i64 al, .int .i64 ah]) (.agg #[.bool b, .int .i64 bl, .int .i64 bh]) (.agg #[.bool j1, .int .i64 j2, .int .i64 j3]) (.bool false) (.bool false) (.agg #[.bool a, .int .i64 al, .int .i64 ah]) (.bool oa) (.bool (!oa)) (.bool (!oa)) (.bool (!oa)) (bif oa then (.agg #[.bool b, .int .i64 bl, .int .i64 bh]) else undef) (bif oa then (.bool ob) else undef) (bif oa then (.bool (!ob)) else undef) (.bool (!g2)) (.bool (!g2)) (bif g2 then (.agg #[.bool c, .int .i64 cl, .int .i64 ch]) else undef) (bif g2 then (.bool oc) else undef) (bif g2 then (.bool (!oc)) else undef) (.bool (!g3)) (.bool (!g3)) (bif g3 then (.agg #[.bool d, .int .i64 dl, .int .i64 dh]) else undef) (bif g3 then (.bool od) else undef) (bif g3 then (.bool (!od)) else undef) (.bool (!g4)) ) ?start ?step ?fin
    case start =>
      exact ⟨false, false, false, false, false, false, false, false, false, false, false, false, false, false, false, false, false, false, false, false, false, false, false, false, false, false, _, _, _, _, _, _, _, _, _, _, _, _, _, _, _, _, _, _, _, _, _, _, _, _, _, _, rfl, rfl, Below.drew (Below.refl _ _), Sl.no, Sl.no, Sl.no, Sl.no, Sl.no, Sl.no, Sl.no, Sl.no, Sl.no, Sl.no, Sl.no, Sl.no, Sl.no, Sl.no, Sl.no, Sl.no, Sl.no, Sl.no, Sl.no, Sl.no, Sl.no, Sl.no, Sl.no, Sl.no, Sl.no, Sl.no⟩
    case step =>
      intro listed a x hI i o ho hun hpre
      obtain ⟨b0, b1, b2, b3, b4, b5, b6, b7, b8, b9, b10, b11, b12, b13, b14, b15, b16, b17, b18, b19, b20, b21, b22, b23, b24, b25, s34, s35, s36, s37, s38, s39, s40, s41, s42, s43, s44, s45, s46, s47, s48, s49, s50, s51, s52, s53, s54, s55, s56, s57, s58, s59, rfl, rfl, hBx, h0, h1, h2, h3, h4, h5, h6, h7, h8, h9, h10, h11, h12, h13, h14, h15, h16, h17, h18, h19, h20, h21, h22, h23, h24, h25⟩ := hI
      rcases i with _ | i
      · obtain rfl := Option.some.inj ho
        refine wpOp_yes ho (by rfl) fun K hK => ?_
        clear ho hpre
        obtain ⟨n, c0, c1, c2, f0, f1, f2⟩ := SX.later hBx
        go_simp
        exact hK _ _ ⟨true, b1, b2, b3, b4, b5, b6, b7, b8, b9, b10, b11, b12, b13, b14, b15, b16, b17, b18, b19, b20, b21, b22, b23, b24, b25, _, s35, s36, s37, s38, s39, s40, s41, s42, s43, s44, s45, s46, s47, s48, s49, s50, s51, s52, s53, s54, s55, s56, s57, s58, s59, rfl, rfl, hBx, Sl.mk rfl, h1, h2, h3, h4, h5, h6, h7, h8, h9, h10, h11, h12, h13, h14, h15, h16, h17, h18, h19, h20, h21, h22, h23, h24, h25⟩
      rcases i with _ | i
      · obtain rfl := Option.some.inj ho
        refine wpOp_yes ho (by rfl) fun K hK => ?_
        clear ho hpre
        go_simp
        exact hK _ _ ⟨b0, true, b2, b3, b4, b5, b6, b7, b8, b9, b10, b11, b12, b13, b14, b15, b16, b17, b18, b19, b20, b21, b22, b23, b24, b25, s34, _, s36, s37, s38, s39, s40, s41, s42, s43, s44, s45, s46, s47, s48, s49, s50, s51, s52, s53, s54, s55, s56, s57, s58, s59, rfl, rfl, hBx, h0, Sl.mk rfl, h2, h3, h4, h5, h6, h7, h8, h9, h10, h11, h12, h13, h14, h15, h16, h17, h18, h19, h20, h21, h22, h23, h24, h25⟩
      rcases i with _ | i
      · obtain rfl := Option.some.inj ho
        refine wpOp_yes ho (by rfl) fun K hK => ?_
        clear ho hpre
        obtain ⟨n, c0, c1, c2, f0, f1, f2⟩ := SA.later hBx
        go_simp
        exact hK _ _ ⟨b0, b1, true, b3, b4, b5, b6, b7, b8, b9, b10, b11, b12, b13, b14, b15, b16, b17, b18, b19, b20, b21, b22, b23, b24, b25, s34, s35, _, s37, s38, s39, s40, s41, s42, s43, s44, s45, s46, s47, s48, s49, s50, s51, s52, s53, s54, s55, s56, s57, s58, s59, rfl, rfl, hBx, h0, h1, Sl.mk rfl, h3, h4, h5, h6, h7, h8, h9, h10, h11, h12, h13, h14, h15, h16, h17, h18, h19, h20, h21, h22, h23, h24, h25⟩
      rcases i with _ | i
      · obtain rfl := Option.some.inj ho
        refine wpOp_yes ho (by rfl) fun K hK => ?_
        clear ho hpre
        obtain ⟨n, c0, c1, c2, f0, f1, f2⟩ := SB.later hBx
        go_simp
        exact hK _ _ ⟨b0, b1, b2, true, b4, b5, b6, b7, b8, b9, b10, b11, b12, b13, b14, b15, b16, b17, b18, b19, b20, b21, b22, b23, b24, b25, s34, s35, s36, _, s38, s39, s40, s41, s42, s43, s44, s45, s46, s47, s48, s49, s50, s51, s52, s53, s54, s55, s56, s57, s58, s59, rfl, rfl, hBx, h0, h1, h2, Sl.mk rfl, h4, h5, h6, h7, h8, h9, h10, h11, h12, h13, h14, h15, h16, h17, h18, h19, h20, h21, h22, h23, h24, h25⟩
      rcases i with _ | i
      · obtain rfl := Option.some.inj ho
        have q1 : b1 = true := hpre ⟨1, .data⟩ (by simp) rfl
        have q2 : b2 = true := hpre ⟨2, .data⟩ (by simp) rfl
        have q3 : b3 = true := hpre ⟨3, .data⟩ (by simp) rfl
        have e1 : s35 = .int .i64 op := h1.at_ q1
        subst e1
        have e2 : s36 = .agg #[.bool a, .int .i64 al, .int .i64 ah] := h2.at_ q2
        subst e2
        have e3 : s37 = .agg #[.bool b, .int .i64 bl, .int .i64 bh] := h3.at_ q3
        subst e3
        refine wpOp_yes ho (by rfl) fun K hK => ?_
        clear ho hpre
        go_simp
        refine (Js.out _).mono ?_
        rintro e w' ⟨rfl, hbx⟩
        exact hK _ _ ⟨b0, b1, b2, b3, true, b5, b6, b7, b8, b9, b10, b11, b12, b13, b14, b15, b16, b17, b18, b19, b20, b21, b22, b23, b24, b25, s34, _, _, _, _, s39, s40, s41, s42, s43, s44, s45, s46, s47, s48, s49, s50, s51, s52, s53, s54, s55, s56, s57, s58, s59, rfl, rfl, hBx.trans (hbx.mono hBx.size), h0, h1, h2, h3, Sl.mk rfl, h5, h6, h7, h8, h9, h10, h11, h12, h13, h14, h15, h16, h17, h18, h19, h20, h21, h22, h23, h24, h25⟩
      rcases i with _ | i
      · obtain rfl := Option.some.inj ho
        have q0 : b0 = true := hpre ⟨0, .data⟩ (by simp) rfl
        have q4 : b4 = true := hpre ⟨4, .data⟩ (by simp) rfl
        have e0 : s34 = .agg #[.bool j1, .int .i64 j2, .int .i64 j3] := h0.at_ q0
        subst e0
        have e4 : s38 = .agg #[.bool j1, .int .i64 j2, .int .i64 j3] := h4.at_ q4
        subst e4
        refine wpOp_yes ho (by rfl) fun K hK => ?_
        clear ho hpre
        go_simp
        exact hK _ _ ⟨b0, b1, b2, b3, b4, true, b6, b7, b8, b9, b10, b11, b12, b13, b14, b15, b16, b17, b18, b19, b20, b21, b22, b23, b24, b25, _, s35, s36, s37, _, _, s40, s41, s42, s43, s44, s45, s46, s47, s48, s49, s50, s51, s52, s53, s54, s55, s56, s57, s58, s59, rfl, rfl, hBx, h0, h1, h2, h3, h4, Sl.mk rfl, h6, h7, h8, h9, h10, h11, h12, h13, h14, h15, h16, h17, h18, h19, h20, h21, h22, h23, h24, h25⟩
      rcases i with _ | i
      · obtain rfl := Option.some.inj ho
        have q5 : b5 = true := hpre ⟨5, .data⟩ (by simp) rfl
        have e5 : s39 = .bool false := h5.at_ q5
        subst e5
        refine wpOp_yes ho (by rfl) fun K hK => ?_
        clear ho hpre
        go_simp
        exact hK _ _ ⟨b0, b1, b2, b3, b4, b5, true, b7, b8, b9, b10, b11, b12, b13, b14, b15, b16, b17, b18, b19, b20, b21, b22, b23, b24, b25, s34, s35, s36, s37, s38, _, _, s41, s42, s43, s44, s45, s46, s47, s48, s49, s50, s51, s52, s53, s54, s55, s56, s57, s58, s59, rfl, rfl, hBx, h0, h1, h2, h3, h4, h5, Sl.mk rfl, h7, h8, h9, h10, h11, h12, h13, h14, h15, h16, h17, h18, h19, h20, h21, h22, h23, h24, h25⟩
      rcases i with _ | i
      · obtain rfl := Option.some.inj ho
        have q6 : b6 = true := hpre ⟨6, .guard⟩ (by simp) rfl
        have e6 : s40 = .bool false := h6.at_ q6
        subst e6
        refine wpOp_yes ho (by rfl) fun K hK => ?_
        clear ho hpre
        obtain ⟨n, c0, c1, c2, f0, f1, f2⟩ := SA.later hBx
        go_simp
        exact hK _ _ ⟨b0, b1, b2, b3, b4, b5, b6, true, b8, b9, b10, b11, b12, b13, b14, b15, b16, b17, b18, b19, b20, b21, b22, b23, b24, b25, s34, s35, s36, s37, s38, s39, _, _, s42, s43, s44, s45, s46, s47, s48, s49, s50, s51, s52, s53, s54, s55, s56, s57, s58, s59, rfl, rfl, hBx, h0, h1, h2, h3, h4, h5, h6, Sl.mk rfl, h8, h9, h10, h11, h12, h13, h14, h15, h16, h17, h18, h19, h20, h21, h22, h23, h24, h25⟩
      rcases i with _ | i
      · obtain rfl := Option.some.inj ho
        have q6 : b6 = true := hpre ⟨6, .guard⟩ (by simp) rfl
        have q7 : b7 = true := hpre ⟨7, .data⟩ (by simp) rfl
        have e6 : s40 = .bool false := h6.at_ q6
        subst e6
        have e7 : s41 = .agg #[.bool a, .int .i64 al, .int .i64 ah] := h7.at_ q7
        subst e7
        refine wpOp_yes ho (by rfl) fun K hK => ?_
        clear ho hpre
        go_simp
        refine (ok_at Hoa.out _).mono ?_
        rintro e w' ⟨rfl, hbx⟩
        exact hK _ _ ⟨b0, b1, b2, b3, b4, b5, b6, b7, true, b9, b10, b11, b12, b13, b14, b15, b16, b17, b18, b19, b20, b21, b22, b23, b24, b25, s34, s35, s36, s37, s38, s39, _, _, _, s43, s44, s45, s46, s47, s48, s49, s50, s51, s52, s53, s54, s55, s56, s57, s58, s59, rfl, rfl, hBx.trans (hbx.mono hBx.size), h0, h1, h2, h3, h4, h5, h6, h7, Sl.mk rfl, h9, h10, h11, h12, h13, h14, h15, h16, h17, h18, h19, h20, h21, h22, h23, h24, h25⟩
      rcases i with _ | i
      · obtain rfl := Option.some.inj ho
        have q6 : b6 = true := hpre ⟨6, .guard⟩ (by simp) rfl
        have q8 : b8 = true := hpre ⟨8, .data⟩ (by simp) rfl
        have e6 : s40 = .bool false := h6.at_ q6
        subst e6
        have e8 : s42 = .bool oa := h8.at_ q8
        subst e8
        refine wpOp_yes ho (by rfl) fun K hK => ?_
        clear ho hpre
        go_simp
        exact hK _ _ ⟨b0, b1, b2, b3, b4, b5, b6, b7, b8, true, b10, b11, b12, b13, b14, b15, b16, b17, b18, b19, b20, b21, b22, b23, b24, b25, s34, s35, s36, s37, s38, s39, _, s41, _, _, s44, s45, s46, s47, s48, s49, s50, s51, s52, s53, s54, s55, s56, s57, s58, s59, rfl, rfl, hBx, h0, h1, h2, h3, h4, h5, h6, h7, h8, Sl.mk rfl, h10, h11, h12, h13, h14, h15, h16, h17, h18, h19, h20, h21, h22, h23, h24, h25⟩
      rcases i with _ | i
      · obtain rfl := Option.some.inj ho
        have q6 : b6 = true := hpre ⟨6, .data⟩ (by simp) rfl
        have q9 : b9 = true := hpre ⟨9, .data⟩ (by simp) rfl
        have e6 : s40 = .bool false := h6.at_ q6
        subst e6
        have e9 : s43 = .bool (!oa) := h9.at_ q9
        subst e9
        refine wpOp_yes ho (by rfl) fun K hK => ?_
        clear ho hpre
        go_simp
        exact hK _ _ ⟨b0, b1, b2, b3, b4, b5, b6, b7, b8, b9, true, b11, b12, b13, b14, b15, b16, b17, b18, b19, b20, b21, b22, b23, b24, b25, s34, s35, s36, s37, s38, s39, _, s41, s42, _, _, s45, s46, s47, s48, s49, s50, s51, s52, s53, s54, s55, s56, s57, s58, s59, rfl, rfl, hBx, h0, h1, h2, h3, h4, h5, h6, h7, h8, h9, Sl.mk rfl, h11, h12, h13, h14, h15, h16, h17, h18, h19, h20, h21, h22, h23, h24, h25⟩
      rcases i with _ | i
      · obtain rfl := Option.some.inj ho
        have q10 : b10 = true := hpre ⟨10, .data⟩ (by simp) rfl
        have e10 : s44 = .bool (!oa) := h10.at_ q10
        subst e10
        refine wpOp_yes ho (by rfl) fun K hK => ?_
        clear ho hpre
        go_simp
        exact hK _ _ ⟨b0, b1, b2, b3, b4, b5, b6, b7, b8, b9, b10, true, b12, b13, b14, b15, b16, b17, b18, b19, b20, b21, b22, b23, b24, b25, s34, s35, s36, s37, s38, s39, s40, s41, s42, s43, _, _, s46, s47, s48, s49, s50, s51, s52, s53, s54, s55, s56, s57, s58, s59, rfl, rfl, hBx, h0, h1, h2, h3, h4, h5, h6, h7, h8, h9, h10, Sl.mk rfl, h12, h13, h14, h15, h16, h17, h18, h19, h20, h21, h22, h23, h24, h25⟩
      rcases i with _ | i
      · obtain rfl := Option.some.inj ho
        have q11 : b11 = true := hpre ⟨11, .guard⟩ (by simp) rfl
        cases oa
        · have e11 : s45 = .bool (!false) := h11.at_ q11
          subst e11
          refine wpOp_no ho (by rfl) ?_
          clear ho hpre
          simp only [Act.put, List.setIfInBounds_toArray, List.set_cons_zero, List.set_cons_succ]
          exact ⟨b0, b1, b2, b3, b4, b5, b6, b7, b8, b9, b10, b11, true, b13, b14, b15, b16, b17, b18, b19, b20, b21, b22, b23, b24, b25, s34, s35, s36, s37, s38, s39, s40, s41, s42, s43, s44, _, _, s47, s48, s49, s50, s51, s52, s53, s54, s55, s56, s57, s58, s59, rfl, rfl, hBx, h0, h1, h2, h3, h4, h5, h6, h7, h8, h9, h10, h11, Sl.mk rfl, h13, h14, h15, h16, h17, h18, h19, h20, h21, h22, h23, h24, h25⟩
        · have e11 : s45 = .bool (!true) := h11.at_ q11
          subst e11
          refine wpOp_yes ho (by rfl) fun K hK => ?_
          clear ho hpre
          obtain ⟨n, c0, c1, c2, f0, f1, f2⟩ := SB.later hBx
          go_simp
          exact hK _ _ ⟨b0, b1, b2, b3, b4, b5, b6, b7, b8, b9, b10, b11, true, b13, b14, b15, b16, b17, b18, b19, b20, b21, b22, b23, b24, b25, s34, s35, s36, s37, s38, s39, s40, s41, s42, s43, s44, _, _, s47, s48, s49, s50, s51, s52, s53, s54, s55, s56, s57, s58, s59, rfl, rfl, hBx, h0, h1, h2, h3, h4, h5, h6, h7, h8, h9, h10, h11, Sl.mk rfl, h13, h14, h15, h16, h17, h18, h19, h20, h21, h22, h23, h24, h25⟩
      rcases i with _ | i
      · obtain rfl := Option.some.inj ho
        have q11 : b11 = true := hpre ⟨11, .guard⟩ (by simp) rfl
        have q12 : b12 = true := hpre ⟨12, .data⟩ (by simp) rfl
        cases oa
        · have e11 : s45 = .bool (!false) := h11.at_ q11
          subst e11
          have e12 : s46 = undef := h12.at_ q12
          subst e12
          refine wpOp_no ho (by rfl) ?_
          clear ho hpre
          simp only [Act.put, List.setIfInBounds_toArray, List.set_cons_zero, List.set_cons_succ]
          exact ⟨b0, b1, b2, b3, b4, b5, b6, b7, b8, b9, b10, b11, b12, true, b14, b15, b16, b17, b18, b19, b20, b21, b22, b23, b24, b25, s34, s35, s36, s37, s38, s39, s40, s41, s42, s43, s44, _, _, _, s48, s49, s50, s51, s52, s53, s54, s55, s56, s57, s58, s59, rfl, rfl, hBx, h0, h1, h2, h3, h4, h5, h6, h7, h8, h9, h10, h11, h12, Sl.mk rfl, h14, h15, h16, h17, h18, h19, h20, h21, h22, h23, h24, h25⟩
        · have e11 : s45 = .bool (!true) := h11.at_ q11
          subst e11
          have e12 : s46 = .agg #[.bool b, .int .i64 bl, .int .i64 bh] := h12.at_ q12
          subst e12
          refine wpOp_yes ho (by rfl) fun K hK => ?_
          clear ho hpre
          go_simp
          refine (ok_at Hob.out _).mono ?_
          rintro e w' ⟨rfl, hbx⟩
          exact hK _ _ ⟨b0, b1, b2, b3, b4, b5, b6, b7, b8, b9, b10, b11, b12, true, b14, b15, b16, b17, b18, b19, b20, b21, b22, b23, b24, b25, s34, s35, s36, s37, s38, s39, s40, s41, s42, s43, s44, _, _, _, s48, s49, s50, s51, s52, s53, s54, s55, s56, s57, s58, s59, rfl, rfl, hBx.trans (hbx.mono hBx.size), h0, h1, h2, h3, h4, h5, h6, h7, h8, h9, h10, h11, h12, Sl.mk rfl, h14, h15, h16, h17, h18, h19, h20, h21, h22, h23, h24, h25⟩
      rcases i with _ | i
      · obtain rfl := Option.some.inj ho
        have q11 : b11 = true := hpre ⟨11, .guard⟩ (by simp) rfl
        have q13 : b13 = true := hpre ⟨13, .data⟩ (by simp) rfl
        cases oa
        · have e11 : s45 = .bool (!false) := h11.at_ q11
          subst e11
          have e13 : s47 = undef := h13.at_ q13
          subst e13
          refine wpOp_no ho (by rfl) ?_
          clear ho hpre
          simp only [Act.put, List.setIfInBounds_toArray, List.set_cons_zero, List.set_cons_succ]
          exact ⟨b0, b1, b2, b3, b4, b5, b6, b7, b8, b9, b10, b11, b12, b13, true, b15, b16, b17, b18, b19, b20, b21, b22, b23, b24, b25, s34, s35, s36, s37, s38, s39, s40, s41, s42, s43, s44, _, s46, _, _, s49, s50, s51, s52, s53, s54, s55, s56, s57, s58, s59, rfl, rfl, hBx, h0, h1, h2, h3, h4, h5, h6, h7, h8, h9, h10, h11, h12, h13, Sl.mk rfl, h15, h16, h17, h18, h19, h20, h21, h22, h23, h24, h25⟩
        · have e11 : s45 = .bool (!true) := h11.at_ q11
          subst e11
          have e13 : s47 = .bool ob := h13.at_ q13
          subst e13
          refine wpOp_yes ho (by rfl) fun K hK => ?_
          clear ho hpre
          go_simp
          exact hK _ _ ⟨b0, b1, b2, b3, b4, b5, b6, b7, b8, b9, b10, b11, b12, b13, true, b15, b16, b17, b18, b19, b20, b21, b22, b23, b24, b25, s34, s35, s36, s37, s38, s39, s40, s41, s42, s43, s44, _, s46, _, _, s49, s50, s51, s52, s53, s54, s55, s56, s57, s58, s59, rfl, rfl, hBx, h0, h1, h2, h3, h4, h5, h6, h7, h8, h9, h10, h11, h12, h13, Sl.mk rfl, h15, h16, h17, h18, h19, h20, h21, h22, h23, h24, h25⟩
      rcases i with _ | i
      · obtain rfl := Option.some.inj ho
        have q11 : b11 = true := hpre ⟨11, .data⟩ (by simp) rfl
        have q14 : b14 = true := hpre ⟨14, .data⟩ (by simp) rfl
        cases oa
        · obtain rfl := HE2.out
          have e11 : s45 = .bool (!false) := h11.at_ q11
          subst e11
          have e14 : s48 = undef := h14.at_ q14
          subst e14
          refine wpOp_yes ho (by rfl) fun K hK => ?_
          clear ho hpre
          go_simp
          exact hK _ _ ⟨b0, b1, b2, b3, b4, b5, b6, b7, b8, b9, b10, b11, b12, b13, b14, true, b16, b17, b18, b19, b20, b21, b22, b23, b24, b25, s34, s35, s36, s37, s38, s39, s40, s41, s42, s43, s44, _, s46, s47, _, _, s50, s51, s52, s53, s54, s55, s56, s57, s58, s59, rfl, rfl, hBx, h0, h1, h2, h3, h4, h5, h6, h7, h8, h9, h10, h11, h12, h13, h14, Sl.mk rfl, h16, h17, h18, h19, h20, h21, h22, h23, h24, h25⟩
        · obtain rfl := HE2.out
          have e11 : s45 = .bool (!true) := h11.at_ q11
          subst e11
          have e14 : s48 = .bool (!ob) := h14.at_ q14
          subst e14
          refine wpOp_yes ho (by rfl) fun K hK => ?_
          clear ho hpre
          go_simp
          exact hK _ _ ⟨b0, b1, b2, b3, b4, b5, b6, b7, b8, b9, b10, b11, b12, b13, b14, true, b16, b17, b18, b19, b20, b21, b22, b23, b24, b25, s34, s35, s36, s37, s38, s39, s40, s41, s42, s43, s44, _, s46, s47, _, _, s50, s51, s52, s53, s54, s55, s56, s57, s58, s59, rfl, rfl, hBx, h0, h1, h2, h3, h4, h5, h6, h7, h8, h9, h10, h11, h12, h13, h14, Sl.mk rfl, h16, h17, h18, h19, h20, h21, h22, h23, h24, h25⟩
      rcases i with _ | i
      · obtain rfl := Option.some.inj ho
        have q15 : b15 = true := hpre ⟨15, .data⟩ (by simp) rfl
        have e15 : s49 = .bool (!g2) := h15.at_ q15
        subst e15
        refine wpOp_yes ho (by rfl) fun K hK => ?_
        clear ho hpre
        go_simp
        exact hK _ _ ⟨b0, b1, b2, b3, b4, b5, b6, b7, b8, b9, b10, b11, b12, b13, b14, b15, true, b17, b18, b19, b20, b21, b22, b23, b24, b25, s34, s35, s36, s37, s38, s39, s40, s41, s42, s43, s44, s45, s46, s47, s48, _, _, s51, s52, s53, s54, s55, s56, s57, s58, s59, rfl, rfl, hBx, h0, h1, h2, h3, h4, h5, h6, h7, h8, h9, h10, h11, h12, h13, h14, h15, Sl.mk rfl, h17, h18, h19, h20, h21, h22, h23, h24, h25⟩
      rcases i with _ | i
      · obtain rfl := Option.some.inj ho
        have q16 : b16 = true := hpre ⟨16, .guard⟩ (by simp) rfl
        cases g2
        · have e16 : s50 = .bool (!false) := h16.at_ q16
          subst e16
          refine wpOp_no ho (by rfl) ?_
          clear ho hpre
          simp only [Act.put, List.setIfInBounds_toArray, List.set_cons_zero, List.set_cons_succ]
          exact ⟨b0, b1, b2, b3, b4, b5, b6, b7, b8, b9, b10, b11, b12, b13, b14, b15, b16, true, b18, b19, b20, b21, b22, b23, b24, b25, s34, s35, s36, s37, s38, s39, s40, s41, s42, s43, s44, s45, s46, s47, s48, s49, _, _, s52, s53, s54, s55, s56, s57, s58, s59, rfl, rfl, hBx, h0, h1, h2, h3, h4, h5, h6, h7, h8, h9, h10, h11, h12, h13, h14, h15, h16, Sl.mk rfl, h18, h19, h20, h21, h22, h23, h24, h25⟩
        · have e16 : s50 = .bool (!true) := h16.at_ q16
          subst e16
          refine wpOp_yes ho (by rfl) fun K hK => ?_
          clear ho hpre
          obtain ⟨n, c0, c1, c2, f0, f1, f2⟩ := SC.later hBx
          go_simp
          exact hK _ _ ⟨b0, b1, b2, b3, b4, b5, b6, b7, b8, b9, b10, b11, b12, b13, b14, b15, b16, true, b18, b19, b20, b21, b22, b23, b24, b25, s34, s35, s36, s37, s38, s39, s40, s41, s42, s43, s44, s45, s46, s47, s48, s49, _, _, s52, s53, s54, s55, s56, s57, s58, s59, rfl, rfl, hBx, h0, h1, h2, h3, h4, h5, h6, h7, h8, h9, h10, h11, h12, h13, h14, h15, h16, Sl.mk rfl, h18, h19, h20, h21, h22, h23, h24, h25⟩
      rcases i with _ | i
      · obtain rfl := Option.some.inj ho
        have q16 : b16 = true := hpre ⟨16, .guard⟩ (by simp) rfl
        have q17 : b17 = true := hpre ⟨17, .data⟩ (by simp) rfl
        cases g2
        · have e16 : s50 = .bool (!false) := h16.at_ q16
          subst e16
          have e17 : s51 = undef := h17.at_ q17
          subst e17
          refine wpOp_no ho (by rfl) ?_
          clear ho hpre
          simp only [Act.put, List.setIfInBounds_toArray, List.set_cons_zero, List.set_cons_succ]
          exact ⟨b0, b1, b2, b3, b4, b5, b6, b7, b8, b9, b10, b11, b12, b13, b14, b15, b16, b17, true, b19, b20, b21, b22, b23, b24, b25, s34, s35, s36, s37, s38, s39, s40, s41, s42, s43, s44, s45, s46, s47, s48, s49, _, _, _, s53, s54, s55, s56, s57, s58, s59, rfl, rfl, hBx, h0, h1, h2, h3, h4, h5, h6, h7, h8, h9, h10, h11, h12, h13, h14, h15, h16, h17, Sl.mk rfl, h19, h20, h21, h22, h23, h24, h25⟩
        · have e16 : s50 = .bool (!true) := h16.at_ q16
          subst e16
          have e17 : s51 = .agg #[.bool c, .int .i64 cl, .int .i64 ch] := h17.at_ q17
          subst e17
          refine wpOp_yes ho (by rfl) fun K hK => ?_
          clear ho hpre
          go_simp
          refine (ok_at Hoc.out _).mono ?_
          rintro e w' ⟨rfl, hbx⟩
          exact hK _ _ ⟨b0, b1, b2, b3, b4, b5, b6, b7, b8, b9, b10, b11, b12, b13, b14, b15, b16, b17, true, b19, b20, b21, b22, b23, b24, b25, s34, s35, s36, s37, s38, s39, s40, s41, s42, s43, s44, s45, s46, s47, s48, s49, _, _, _, s53, s54, s55, s56, s57, s58, s59, rfl, rfl, hBx.trans (hbx.mono hBx.size), h0, h1, h2, h3, h4, h5, h6, h7, h8, h9, h10, h11, h12, h13, h14, h15, h16, h17, Sl.mk rfl, h19, h20, h21, h22, h23, h24, h25⟩
      rcases i with _ | i
      · obtain rfl := Option.some.inj ho
        have q16 : b16 = true := hpre ⟨16, .guard⟩ (by simp) rfl
        have q18 : b18 = true := hpre ⟨18, .data⟩ (by simp) rfl
        cases g2
        · have e16 : s50 = .bool (!false) := h16.at_ q16
          subst e16
          have e18 : s52 = undef := h18.at_ q18
          subst e18
          refine wpOp_no ho (by rfl) ?_
          clear ho hpre
          simp only [Act.put, List.setIfInBounds_toArray, List.set_cons_zero, List.set_cons_succ]
          exact ⟨b0, b1, b2, b3, b4, b5, b6, b7, b8, b9, b10, b11, b12, b13, b14, b15, b16, b17, b18, true, b20, b21, b22, b23, b24, b25, s34, s35, s36, s37, s38, s39, s40, s41, s42, s43, s44, s45, s46, s47, s48, s49, _, s51, _, _, s54, s55, s56, s57, s58, s59, rfl, rfl, hBx, h0, h1, h2, h3, h4, h5, h6, h7, h8, h9, h10, h11, h12, h13, h14, h15, h16, h17, h18, Sl.mk rfl, h20, h21, h22, h23, h24, h25⟩
        · have e16 : s50 = .bool (!true) := h16.at_ q16
          subst e16
          have e18 : s52 = .bool oc := h18.at_ q18
          subst e18
          refine wpOp_yes ho (by rfl) fun K hK => ?_
          clear ho hpre
          go_simp
          exact hK _ _ ⟨b0, b1, b2, b3, b4, b5, b6, b7, b8, b9, b10, b11, b12, b13, b14, b15, b16, b17, b18, true, b20, b21, b22, b23, b24, b25, s34, s35, s36, s37, s38, s39, s40, s41, s42, s43, s44, s45, s46, s47, s48, s49, _, s51, _, _, s54, s55, s56, s57, s58, s59, rfl, rfl, hBx, h0, h1, h2, h3, h4, h5, h6, h7, h8, h9, h10, h11, h12, h13, h14, h15, h16, h17, h18, Sl.mk rfl, h20, h21, h22, h23, h24, h25⟩
      rcases i with _ | i
      · obtain rfl := Option.some.inj ho
        have q16 : b16 = true := hpre ⟨16, .data⟩ (by simp) rfl
        have q19 : b19 = true := hpre ⟨19, .data⟩ (by simp) rfl
        cases g2
        · obtain rfl := HE3.out
          have e16 : s50 = .bool (!false) := h16.at_ q16
          subst e16
          have e19 : s53 = undef := h19.at_ q19
          subst e19
          refine wpOp_yes ho (by rfl) fun K hK => ?_
          clear ho hpre
          go_simp
          exact hK _ _ ⟨b0, b1, b2, b3, b4, b5, b6, b7, b8, b9, b10, b11, b12, b13, b14, b15, b16, b17, b18, b19, true, b21, b22, b23, b24, b25, s34, s35, s36, s37, s38, s39, s40, s41, s42, s43, s44, s45, s46, s47, s48, s49, _, s51, s52, _, _, s55, s56, s57, s58, s59, rfl, rfl, hBx, h0, h1, h2, h3, h4, h5, h6, h7, h8, h9, h10, h11, h12, h13, h14, h15, h16, h17, h18, h19, Sl.mk rfl, h21, h22, h23, h24, h25⟩
        · obtain rfl := HE3.out
          have e16 : s50 = .bool (!true) := h16.at_ q16
          subst e16
          have e19 : s53 = .bool (!oc) := h19.at_ q19
          subst e19
          refine wpOp_yes ho (by rfl) fun K hK => ?_
          clear ho hpre
          go_simp
          exact hK _ _ ⟨b0, b1, b2, b3, b4, b5, b6, b7, b8, b9, b10, b11, b12, b13, b14, b15, b16, b17, b18, b19, true, b21, b22, b23, b24, b25, s34, s35, s36, s37, s38, s39, s40, s41, s42, s43, s44, s45, s46, s47, s48, s49, _, s51, s52, _, _, s55, s56, s57, s58, s59, rfl, rfl, hBx, h0, h1, h2, h3, h4, h5, h6, h7, h8, h9, h10, h11, h12, h13, h14, h15, h16, h17, h18, h19, Sl.mk rfl, h21, h22, h23, h24, h25⟩
      rcases i with _ | i
      · obtain rfl := Option.some.inj ho
        have q20 : b20 = true := hpre ⟨20, .data⟩ (by simp) rfl
        have e20 : s54 = .bool (!g3) := h20.at_ q20
        subst e20
        refine wpOp_yes ho (by rfl) fun K hK => ?_
        clear ho hpre
        go_simp
        exact hK _ _ ⟨b0, b1, b2, b3, b4, b5, b6, b7, b8, b9, b10, b11, b12, b13, b14, b15, b16, b17, b18, b19, b20, true, b22, b23, b24, b25, s34, s35, s36, s37, s38, s39, s40, s41, s42, s43, s44, s45, s46, s47, s48, s49, s50, s51, s52, s53, _, _, s56, s57, s58, s59, rfl, rfl, hBx, h0, h1, h2, h3, h4, h5, h6, h7, h8, h9, h10, h11, h12, h13, h14, h15, h16, h17, h18, h19, h20, Sl.mk rfl, h22, h23, h24, h25⟩
      rcases i with _ | i
      · obtain rfl := Option.some.inj ho
        have q21 : b21 = true := hpre ⟨21, .guard⟩ (by simp) rfl
        cases g3
        · have e21 : s55 = .bool (!false) := h21.at_ q21
          subst e21
          refine wpOp_no ho (by rfl) ?_
          clear ho hpre
          simp only [Act.put, List.setIfInBounds_toArray, List.set_cons_zero, List.set_cons_succ]
          exact ⟨b0, b1, b2, b3, b4, b5, b6, b7, b8, b9, b10, b11, b12, b13, b14, b15, b16, b17, b18, b19, b20, b21, true, b23, b24, b25, s34, s35, s36, s37, s38, s39, s40, s41, s42, s43, s44, s45, s46, s47, s48, s49, s50, s51, s52, s53, s54, _, _, s57, s58, s59, rfl, rfl, hBx, h0, h1, h2, h3, h4, h5, h6, h7, h8, h9, h10, h11, h12, h13, h14, h15, h16, h17, h18, h19, h20, h21, Sl.mk rfl, h23, h24, h25⟩
        · have e21 : s55 = .bool (!true) := h21.at_ q21
          subst e21
          refine wpOp_yes ho (by rfl) fun K hK => ?_
          clear ho hpre
          obtain ⟨n, c0, c1, c2, f0, f1, f2⟩ := SD.later hBx
          go_simp
          exact hK _ _ ⟨b0, b1, b2, b3, b4, b5, b6, b7, b8, b9, b10, b11, b12, b13, b14, b15, b16, b17, b18, b19, b20, b21, true, b23, b24, b25, s34, s35, s36, s37, s38, s39, s40, s41, s42, s43, s44, s45, s46, s47, s48, s49, s50, s51, s52, s53, s54, _, _, s57, s58, s59, rfl, rfl, hBx, h0, h1, h2, h3, h4, h5, h6, h7, h8, h9, h10, h11, h12, h13, h14, h15, h16, h17, h18, h19, h20, h21, Sl.mk rfl, h23, h24, h25⟩
      rcases i with _ | i
      · obtain rfl := Option.some.inj ho
        have q21 : b21 = true := hpre ⟨21, .guard⟩ (by simp) rfl
        have q22 : b22 = true := hpre ⟨22, .data⟩ (by simp) rfl
        cases g3
        · have e21 : s55 = .bool (!false) := h21.at_ q21
          subst e21
          have e22 : s56 = undef := h22.at_ q22
          subst e22
          refine wpOp_no ho (by rfl) ?_
          clear ho hpre
          simp only [Act.put, List.setIfInBounds_toArray, List.set_cons_zero, List.set_cons_succ]
          exact ⟨b0, b1, b2, b3, b4, b5, b6, b7, b8, b9, b10, b11, b12, b13, b14, b15, b16, b17, b18, b19, b20, b21, b22, true, b24, b25, s34, s35, s36, s37, s38, s39, s40, s41, s42, s43, s44, s45, s46, s47, s48, s49, s50, s51, s52, s53, s54, _, _, _, s58, s59, rfl, rfl, hBx, h0, h1, h2, h3, h4, h5, h6, h7, h8, h9, h10, h11, h12, h13, h14, h15, h16, h17, h18, h19, h20, h21, h22, Sl.mk rfl, h24, h25⟩
        · have e21 : s55 = .bool (!true) := h21.at_ q21
          subst e21
          have e22 : s56 = .agg #[.bool d, .int .i64 dl, .int .i64 dh] := h22.at_ q22
          subst e22
          refine wpOp_yes ho (by rfl) fun K hK => ?_
          clear ho hpre
          go_simp
          refine (ok_at Hod.out _).mono ?_
          rintro e w' ⟨rfl, hbx⟩
          exact hK _ _ ⟨b0, b1, b2, b3, b4, b5, b6, b7, b8, b9, b10, b11, b12, b13, b14, b15, b16, b17, b18, b19, b20, b21, b22, true, b24, b25, s34, s35, s36, s37, s38, s39, s40, s41, s42, s43, s44, s45, s46, s47, s48, s49, s50, s51, s52, s53, s54, _, _, _, s58, s59, rfl, rfl, hBx.trans (hbx.mono hBx.size), h0, h1, h2, h3, h4, h5, h6, h7, h8, h9, h10, h11, h12, h13, h14, h15, h16, h17, h18, h19, h20, h21, h22, Sl.mk rfl, h24, h25⟩
      rcases i with _ | i
      · obtain rfl := Option.some.inj ho
        have q21 : b21 = true := hpre ⟨21, .guard⟩ (by simp) rfl
        have q23 : b23 = true := hpre ⟨23, .data⟩ (by simp) rfl
        cases g3
        · have e21 : s55 = .bool (!false) := h21.at_ q21
          subst e21
          have e23 : s57 = undef := h23.at_ q23
          subst e23
          refine wpOp_no ho (by rfl) ?_
          clear ho hpre
          simp only [Act.put, List.setIfInBounds_toArray, List.set_cons_zero, List.set_cons_succ]
          exact ⟨b0, b1, b2, b3, b4, b5, b6, b7, b8, b9, b10, b11, b12, b13, b14, b15, b16, b17, b18, b19, b20, b21, b22, b23, true, b25, s34, s35, s36, s37, s38, s39, s40, s41, s42, s43, s44, s45, s46, s47, s48, s49, s50, s51, s52, s53, s54, _, s56, _, _, s59, rfl, rfl, hBx, h0, h1, h2, h3, h4, h5, h6, h7, h8, h9, h10, h11, h12, h13, h14, h15, h16, h17, h18, h19, h20, h21, h22, h23, Sl.mk rfl, h25⟩
        · have e21 : s55 = .bool (!true) := h21.at_ q21
          subst e21
          have e23 : s57 = .bool od := h23.at_ q23
          subst e23
          refine wpOp_yes ho (by rfl) fun K hK => ?_
          clear ho hpre
          go_simp
          exact hK _ _ ⟨b0, b1, b2, b3, b4, b5, b6, b7, b8, b9, b10, b11, b12, b13, b14, b15, b16, b17, b18, b19, b20, b21, b22, b23, true, b25, s34, s35, s36, s37, s38, s39, s40, s41, s42, s43, s44, s45, s46, s47, s48, s49, s50, s51, s52, s53, s54, _, s56, _, _, s59, rfl, rfl, hBx, h0, h1, h2, h3, h4, h5, h6, h7, h8, h9, h10, h11, h12, h13, h14, h15, h16, h17, h18, h19, h20, h21, h22, h23, Sl.mk rfl, h25⟩
      rcases i with _ | i
      · obtain rfl := Option.some.inj ho
        have q21 : b21 = true := hpre ⟨21, .data⟩ (by simp) rfl
        have q24 : b24 = true := hpre ⟨24, .data⟩ (by simp) rfl
        cases g3
        · obtain rfl := HE4.out
          have e21 : s55 = .bool (!false) := h21.at_ q21
          subst e21
          have e24 : s58 = undef := h24.at_ q24
          subst e24
          refine wpOp_yes ho (by rfl) fun K hK => ?_
          clear ho hpre
          go_simp
          exact hK _ _ ⟨b0, b1, b2, b3, b4, b5, b6, b7, b8, b9, b10, b11, b12, b13, b14, b15, b16, b17, b18, b19, b20, b21, b22, b23, b24, true, s34, s35, s36, s37, s38, s39, s40, s41, s42, s43, s44, s45, s46, s47, s48, s49, s50, s51, s52, s53, s54, _, s56, s57, _, _, rfl, rfl, hBx, h0, h1, h2, h3, h4, h5, h6, h7, h8, h9, h10, h11, h12, h13, h14, h15, h16, h17, h18, h19, h20, h21, h22, h23, h24, Sl.mk rfl⟩
        · obtain rfl := HE4.out
          have e21 : s55 = .bool (!true) := h21.at_ q21
          subst e21
          have e24 : s58 = .bool (!od) := h24.at_ q24
          subst e24
          refine wpOp_yes ho (by rfl) fun K hK => ?_
          clear ho hpre
          go_simp
          exact hK _ _ ⟨b0, b1, b2, b3, b4, b5, b6, b7, b8, b9, b10, b11, b12, b13, b14, b15, b16, b17, b18, b19, b20, b21, b22, b23, b24, true, s34, s35, s36, s37, s38, s39, s40, s41, s42, s43, s44, s45, s46, s47, s48, s49, s50, s51, s52, s53, s54, _, s56, s57, _, _, rfl, rfl, hBx, h0, h1, h2, h3, h4, h5, h6, h7, h8, h9, h10, h11, h12, h13, h14, h15, h16, h17, h18, h19, h20, h21, h22, h23, h24, Sl.mk rfl⟩
      cases ho
    case fin =>
      intro listed a x hI hall
      obtain ⟨b0, b1, b2, b3, b4, b5, b6, b7, b8, b9, b10, b11, b12, b13, b14, b15, b16, b17, b18, b19, b20, b21, b22, b23, b24, b25, s34, s35, s36, s37, s38, s39, s40, s41, s42, s43, s44, s45, s46, s47, s48, s49, s50, s51, s52, s53, s54, s55, s56, s57, s58, s59, rfl, rfl, hBx, h0, h1, h2, h3, h4, h5, h6, h7, h8, h9, h10, h11, h12, h13, h14, h15, h16, h17, h18, h19, h20, h21, h22, h23, h24, h25⟩ := hI
      have z25 : s59 = .bool (!g4) := h25.at_ (hall 25 (by simp))
      subst z25
      go_wp2_with fail
      go_meet
      exact ⟨rfl, hBo.trans (hBx.mono hBo.size), SA.later hBx, SB.later hBx, SC.later hBx, SD.later hBx, SX.later hBx⟩
  case rest =>
  clear SA SB SC SD SX hB hBo
  obtain ⟨rfl, hB, SA, SB, SC, SD, SX⟩ := hcut
  cases g4
  · go_wp2_with fail
    refine wp_region_inv (by kernel_rfl) (by kernel_rfl) (DM7 (fun s60 s61 s62 s63 s64 s65 s4 => ⟨#[Value.slice a0 len0 cap0, Value.slice a1 len1 cap1, undef, undef, s4, Value.int IntKind.i64 op, Value.pointer (some { block := y1.heap.size, off := 0 }), Value.pointer (some { block := y1.heap.size + 1, off := 0 }), Value.pointer (some { block := y3.heap.size, off := 0 }), Value.pointer (some { block := y3.heap.size + 1, off := 0 }), Value.pointer (some { block := y5.heap.size, off := 0 }), u11, u12, u13, u14, u15, u16, u17, u18, u19, u20, u21, u22, u23, u24, u25, u26, u27, u28, u29, u30, u31, u32, u33, u34, u35, u36, u37, u38, u39, u40, u41, u42, u43, u44, u45, u46, u47, u48, u49, u50, u51, u52, u53, u54, u55, u56, u57, u58, Value.bool !false, s60, s61, s62, s63, s64, s65, u66, u67, u68, u69, u70, u71, u72, u73, u74, u75], []⟩) wc (.agg #[.bool j1, .int .i64 j2, .int .i64 j3]) (.int .i64 op) (.agg #[.bool a, .int .i64 al, .int .i64 ah]) (.agg #[.bool b, .int .i64 bl, .int .i64 bh]) (.agg #[.bool j1, .int .i64 j2, .int .i64 j3]) (.bool true) (.bool true) ) ?start ?step ?fin
    case start =>
      exact ⟨false, false, false, false, false, false, false, _, _, _, _, _, _, _, rfl, rfl, Below.drew (Below.refl _ _), Sl.no, Sl.no, Sl.no, Sl.no, Sl.no, Sl.no, Sl.no⟩
    case step =>
      intro listed a x hI i o ho hun hpre
      obtain ⟨b0, b1, b2, b3, b4, b5, b6, s60, s61, s62, s63, s64, s65, s4, rfl, rfl, hBx, h0, h1, h2, h3, h4, h5, h6⟩ := hI
      rcases i with _ | i
      · obtain rfl := Option.some.inj ho
        refine wpOp_yes ho (by rfl) fun K hK => ?_
        clear ho hpre
        obtain ⟨n, c0, c1, c2, f0, f1, f2⟩ := SX.later hBx
        go_simp
        exact hK _ _ ⟨true, b1, b2, b3, b4, b5, b6, _, s61, s62, s63, s64, s65, s4, rfl, rfl, hBx, Sl.mk rfl, h1, h2, h3, h4, h5, h6⟩
      rcases i with _ | i
      · obtain rfl := Option.some.inj ho
        refine wpOp_yes ho (by rfl) fun K hK => ?_
        clear ho hpre
        go_simp
        exact hK _ _ ⟨b0, true, b2, b3, b4, b5, b6, s60, _, s62, s63, s64, s65, s4, rfl, rfl, hBx, h0, Sl.mk rfl, h2, h3, h4, h5, h6⟩
      rcases i with _ | i
      · obtain rfl := Option.some.inj ho
        refine wpOp_yes ho (by rfl) fun K hK => ?_
        clear ho hpre
        obtain ⟨n, c0, c1, c2, f0, f1, f2⟩ := SA.later hBx
        go_simp
        exact hK _ _ ⟨b0, b1, true, b3, b4, b5, b6, s60, s61, _, s63, s64, s65, s4, rfl, rfl, hBx, h0, h1, Sl.mk rfl, h3, h4, h5, h6⟩
      rcases i with _ | i
      · obtain rfl := Option.some.inj ho
        refine wpOp_yes ho (by rfl) fun K hK => ?_
        clear ho hpre
        obtain ⟨n, c0, c1, c2, f0, f1, f2⟩ := SB.later hBx
        go_simp
        exact hK _ _ ⟨b0, b1, b2, true, b4, b5, b6, s60, s61, s62, _, s64, s65, s4, rfl, rfl, hBx, h0, h1, h2, Sl.mk rfl, h4, h5, h6⟩
      rcases i with _ | i
      · obtain rfl := Option.some.inj ho
        have q1 : b1 = true := hpre ⟨1, .data⟩ (by simp) rfl
        have q2 : b2 = true := hpre ⟨2, .data⟩ (by simp) rfl
        have q3 : b3 = true := hpre ⟨3, .data⟩ (by simp) rfl
        have e1 : s61 = .int .i64 op := h1.at_ q1
        subst e1
        have e2 : s62 = .agg #[.bool a, .int .i64 al, .int .i64 ah] := h2.at_ q2
        subst e2
        have e3 : s63 = .agg #[.bool b, .int .i64 bl, .int .i64 bh] := h3.at_ q3
        subst e3
        refine wpOp_yes ho (by rfl) fun K hK => ?_
        clear ho hpre
        go_simp
        refine (Js.out _).mono ?_
        rintro e w' ⟨rfl, hbx⟩
        exact hK _ _ ⟨b0, b1, b2, b3, true, b5, b6, s60, _, _, _, _, s65, s4, rfl, rfl, hBx.trans (hbx.mono hBx.size), h0, h1, h2, h3, Sl.mk rfl, h5, h6⟩
      rcases i with _ | i
      · obtain rfl := Option.some.inj ho
        have q0 : b0 = true := hpre ⟨0, .data⟩ (by simp) rfl
        have q4 : b4 = true := hpre ⟨4, .data⟩ (by simp) rfl
        have e0 : s60 = .agg #[.bool j1, .int .i64 j2, .int .i64 j3] := h0.at_ q0
        subst e0
        have e4 : s64 = .agg #[.bool j1, .int .i64 j2, .int .i64 j3] := h4.at_ q4
        subst e4
        refine wpOp_yes ho (by rfl) fun K hK => ?_
        clear ho hpre
        go_simp
        exact hK _ _ ⟨b0, b1, b2, b3, b4, true, b6, _, s61, s62, s63, _, _, s4, rfl, rfl, hBx, h0, h1, h2, h3, h4, Sl.mk rfl, h6⟩
      rcases i with _ | i
      · obtain rfl := Option.some.inj ho
        have q5 : b5 = true := hpre ⟨5, .data⟩ (by simp) rfl
        have e5 : s65 = .bool true := h5.at_ q5
        subst e5
        refine wpOp_yes ho (by rfl) fun K hK => ?_
        clear ho hpre
        go_simp
        exact hK _ _ ⟨b0, b1, b2, b3, b4, b5, true, s60, s61, s62, s63, s64, _, _, rfl, rfl, hBx, h0, h1, h2, h3, h4, h5, Sl.mk rfl⟩
      cases ho
    case fin =>
      intro listed a x hI hall
      obtain ⟨b0, b1, b2, b3, b4, b5, b6, s60, s61, s62, s63, s64, s65, s4, rfl, rfl, hBx, h0, h1, h2, h3, h4, h5, h6⟩ := hI
      have z6 : s4 = .bool true := h6.at_ (hall 6 (by simp))
      subst z6
      go_wp2_with fail
      go_ret
      exact ⟨rfl, hB.trans (hBx.mono hB.size)⟩
  · obtain ⟨e0, e1, e2, e3⟩ := HG.out rfl
    subst e0 e1 e2 e3
    clear HG HE2 HE3 HE4
    obtain ⟨p, pl, ph, hp⟩ : ∃ p pl ph, Hid (joinF a al ah c cl ch = (p, pl, ph)) := ⟨_, _, _, rfl⟩
    obtain ⟨q, ql, qh, hq⟩ : ∃ q ql qh, Hid (joinF b bl bh d dl dh = (q, ql, qh)) := ⟨_, _, _, rfl⟩
    obtain ⟨k1, k2, k3, HV, Ks, Ki⟩ := do_fix op p pl ph q ql qh
    have HI : Hid (inF j1 j2 j3 k1 k2 k3 = true) := do_more Hoa.out Hob.out Hoc.out Hod.out hp.out hq.out HW.out HV.out
    go_wp2_with fail
    refine wp_region_inv (by kernel_rfl) (by kernel_rfl) (DM8 (fun s66 s67 s68 s69 s70 s71 s72 s73 s74 s75 s4 => ⟨#[Value.slice a0 len0 cap0, Value.slice a1 len1 cap1, undef, undef, s4, Value.int IntKind.i64 op, Value.pointer (some { block := y1.heap.size, off := 0 }), Value.pointer (some { block := y1.heap.size + 1, off := 0 }), Value.pointer (some { block := y3.heap.size, off := 0 }), Value.pointer (some { block := y3.heap.size + 1, off := 0 }), Value.pointer (some { block := y5.heap.size, off := 0 }), u11, u12, u13, u14, u15, u16, u17, u18, u19, u20, u21, u22, u23, u24, u25, u26, u27, u28, u29, u30, u31, u32, u33, u34, u35, u36, u37, u38, u39, u40, u41, u42, u43, u44, u45, u46, u47, u48, u49, u50, u51, u52, u53, u54, u55, u56, u57, u58, Value.bool !true, u60, u61, u62, u63, u64, u65, s66, s67, s68, s69, s70, s71, s72, s73, s74, s75], []⟩) wc (.agg #[.bool j1, .int .i64 j2, .int .i64 j3]) (.int .i64 op) (.agg #[.bool a, .int .i64 al, .int .i64 ah]) (.agg #[.bool c, .int .i64 cl, .int .i64 ch]) (.agg #[.bool p, .int .i64 pl, .int .i64 ph]) (.agg #[.bool b, .int .i64 bl, .int .i64 bh]) (.agg #[.bool d, .int .i64 dl, .int .i64 dh]) (.agg #[.bool q, .int .i64 ql, .int .i64 qh]) (.agg #[.bool k1, .int .i64 k2, .int .i64 k3]) (.bool true) (.bool true) ) ?start ?step ?fin
    case start =>
      exact ⟨false, false, false, false, false, false, false, false, false, false, false, _, _, _, _, _, _, _, _, _, _, _, rfl, rfl, Below.drew (Below.refl _ _), Sl.no, Sl.no, Sl.no, Sl.no, Sl.no, Sl.no, Sl.no, Sl.no, Sl.no, Sl.no, Sl.no⟩
    case step =>
      intro listed a x hI i o ho hun hpre
      obtain ⟨b0, b1, b2, b3, b4, b5, b6, b7, b8, b9, b10, s66, s67, s68, s69, s70, s71, s72, s73, s74, s75, s4, rfl, rfl, hBx, h0, h1, h2, h3, h4, h5, h6, h7, h8, h9, h10⟩ := hI
      rcases i with _ | i
      · obtain rfl := Option.some.inj ho
        refine wpOp_yes ho (by rfl) fun K hK => ?_
        clear ho hpre
        obtain ⟨n, c0, c1, c2, f0, f1, f2⟩ := SX.later hBx
        go_simp
        exact hK _ _ ⟨true, b1, b2, b3, b4, b5, b6, b7, b8, b9, b10, _, s67, s68, s69, s70, s71, s72, s73, s74, s75, s4, rfl, rfl, hBx, Sl.mk rfl, h1, h2, h3, h4, h5, h6, h7, h8, h9, h10⟩
      rcases i with _ | i
      · obtain rfl := Option.some.inj ho
        refine wpOp_yes ho (by rfl) fun K hK => ?_
        clear ho hpre
        go_simp
        exact hK _ _ ⟨b0, true, b2, b3, b4, b5, b6, b7, b8, b9, b10, s66, _, s68, s69, s70, s71, s72, s73, s74, s75, s4, rfl, rfl, hBx, h0, Sl.mk rfl, h2, h3, h4, h5, h6, h7, h8, h9, h10⟩
      rcases i with _ | i
      · obtain rfl := Option.some.inj ho
        refine wpOp_yes ho (by rfl) fun K hK => ?_
        clear ho hpre
        obtain ⟨n, c0, c1, c2, f0, f1, f2⟩ := SA.later hBx
        go_simp
        exact hK _ _ ⟨b0, b1, true, b3, b4, b5, b6, b7, b8, b9, b10, s66, s67, _, s69, s70, s71, s72, s73, s74, s75, s4, rfl, rfl, hBx, h0, h1, Sl.mk rfl, h3, h4, h5, h6, h7, h8, h9, h10⟩
      rcases i with _ | i
      · obtain rfl := Option.some.inj ho
        refine wpOp_yes ho (by rfl) fun K hK => ?_
        clear ho hpre
        obtain ⟨n, c0, c1, c2, f0, f1, f2⟩ := SC.later hBx
        go_simp
        exact hK _ _ ⟨b0, b1, b2, true, b4, b5, b6, b7, b8, b9, b10, s66, s67, s68, _, s70, s71, s72, s73, s74, s75, s4, rfl, rfl, hBx, h0, h1, h2, Sl.mk rfl, h4, h5, h6, h7, h8, h9, h10⟩
      rcases i with _ | i
      · obtain rfl := Option.some.inj ho
        have q2 : b2 = true := hpre ⟨2, .data⟩ (by simp) rfl
        have q3 : b3 = true := hpre ⟨3, .data⟩ (by simp) rfl
        have e2 : s68 = .agg #[.bool a, .int .i64 al, .int .i64 ah] := h2.at_ q2
        subst e2
        have e3 : s69 = .agg #[.bool c, .int .i64 cl, .int .i64 ch] := h3.at_ q3
        subst e3
        refine wpOp_yes ho (by rfl) fun K hK => ?_
        clear ho hpre
        go_simp
        refine (join_at hp.out _).mono ?_
        rintro e w' ⟨rfl, hbx⟩
        exact hK _ _ ⟨b0, b1, b2, b3, true, b5, b6, b7, b8, b9, b10, s66, s67, _, _, _, s71, s72, s73, s74, s75, s4, rfl, rfl, hBx.trans (hbx.mono hBx.size), h0, h1, h2, h3, Sl.mk rfl, h5, h6, h7, h8, h9, h10⟩
      rcases i with _ | i
      · obtain rfl := Option.some.inj ho
        refine wpOp_yes ho (by rfl) fun K hK => ?_
        clear ho hpre
        obtain ⟨n, c0, c1, c2, f0, f1, f2⟩ := SB.later hBx
        go_simp
        exact hK _ _ ⟨b0, b1, b2, b3, b4, true, b6, b7, b8, b9, b10, s66, s67, s68, s69, s70, _, s72, s73, s74, s75, s4, rfl, rfl, hBx, h0, h1, h2, h3, h4, Sl.mk rfl, h6, h7, h8, h9, h10⟩
      rcases i with _ | i
      · obtain rfl := Option.some.inj ho
        refine wpOp_yes ho (by rfl) fun K hK => ?_
        clear ho hpre
        obtain ⟨n, c0, c1, c2, f0, f1, f2⟩ := SD.later hBx
        go_simp
        exact hK _ _ ⟨b0, b1, b2, b3, b4, b5, true, b7, b8, b9, b10, s66, s67, s68, s69, s70, s71, _, s73, s74, s75, s4, rfl, rfl, hBx, h0, h1, h2, h3, h4, h5, Sl.mk rfl, h7, h8, h9, h10⟩
      rcases i with _ | i
      · obtain rfl := Option.some.inj ho
        have q5 : b5 = true := hpre ⟨5, .data⟩ (by simp) rfl
        have q6 : b6 = true := hpre ⟨6, .data⟩ (by simp) rfl
        have e5 : s71 = .agg #[.bool b, .int .i64 bl, .int .i64 bh] := h5.at_ q5
        subst e5
        have e6 : s72 = .agg #[.bool d, .int .i64 dl, .int .i64 dh] := h6.at_ q6
        subst e6
        refine wpOp_yes ho (by rfl) fun K hK => ?_
        clear ho hpre
        go_simp
        refine (join_at hq.out _).mono ?_
        rintro e w' ⟨rfl, hbx⟩
        exact hK _ _ ⟨b0, b1, b2, b3, b4, b5, b6, true, b8, b9, b10, s66, s67, s68, s69, s70, _, _, _, s74, s75, s4, rfl, rfl, hBx.trans (hbx.mono hBx.size), h0, h1, h2, h3, h4, h5, h6, Sl.mk rfl, h8, h9, h10⟩
      rcases i with _ | i
      · obtain rfl := Option.some.inj ho
        have q1 : b1 = true := hpre ⟨1, .data⟩ (by simp) rfl
        have q4 : b4 = true := hpre ⟨4, .data⟩ (by simp) rfl
        have q7 : b7 = true := hpre ⟨7, .data⟩ (by simp) rfl
        have e1 : s67 = .int .i64 op := h1.at_ q1
        subst e1
        have e4 : s70 = .agg #[.bool p, .int .i64 pl, .int .i64 ph] := h4.at_ q4
        subst e4
        have e7 : s73 = .agg #[.bool q, .int .i64 ql, .int .i64 qh] := h7.at_ q7
        subst e7
        refine wpOp_yes ho (by rfl) fun K hK => ?_
        clear ho hpre
        go_simp
        refine (Ki.out _).mono ?_
        rintro e w' ⟨rfl, hbx⟩
        exact hK _ _ ⟨b0, b1, b2, b3, b4, b5, b6, b7, true, b9, b10, s66, _, s68, s69, _, s71, s72, _, _, s75, s4, rfl, rfl, hBx.trans (hbx.mono hBx.size), h0, h1, h2, h3, h4, h5, h6, h7, Sl.mk rfl, h9, h10⟩
      rcases i with _ | i
      · obtain rfl := Option.some.inj ho
        have q0 : b0 = true := hpre ⟨0, .data⟩ (by simp) rfl
        have q8 : b8 = true := hpre ⟨8, .data⟩ (by simp) rfl
        have e0 : s66 = .agg #[.bool j1, .int .i64 j2, .int .i64 j3] := h0.at_ q0
        subst e0
        have e8 : s74 = .agg #[.bool k1, .int .i64 k2, .int .i64 k3] := h8.at_ q8
        subst e8
        refine wpOp_yes ho (by rfl) fun K hK => ?_
        clear ho hpre
        go_simp
        refine (in_at HI.out _).mono ?_
        rintro e w' ⟨rfl, hbx⟩
        exact hK _ _ ⟨b0, b1, b2, b3, b4, b5, b6, b7, b8, true, b10, _, s67, s68, s69, s70, s71, s72, s73, _, _, s4, rfl, rfl, hBx.trans (hbx.mono hBx.size), h0, h1, h2, h3, h4, h5, h6, h7, h8, Sl.mk rfl, h10⟩
      rcases i with _ | i
      · obtain rfl := Option.some.inj ho
        have q9 : b9 = true := hpre ⟨9, .data⟩ (by simp) rfl
        have e9 : s75 = .bool true := h9.at_ q9
        subst e9
        refine wpOp_yes ho (by rfl) fun K hK => ?_
        clear ho hpre
        go_simp
        exact hK _ _ ⟨b0, b1, b2, b3, b4, b5, b6, b7, b8, b9, true, s66, s67, s68, s69, s70, s71, s72, s73, s74, _, _, rfl, rfl, hBx, h0, h1, h2, h3, h4, h5, h6, h7, h8, h9, Sl.mk rfl⟩
      cases ho
    case fin =>
      intro listed a x hI hall
      obtain ⟨b0, b1, b2, b3, b4, b5, b6, b7, b8, b9, b10, s66, s67, s68, s69, s70, s71, s72, s73, s74, s75, s4, rfl, rfl, hBx, h0, h1, h2, h3, h4, h5, h6, h7, h8, h9, h10⟩ := hI
      have z10 : s4 = .bool true := h10.at_ (hall 10 (by simp))
      subst z10
      go_wp2_with fail
      go_ret
      exact ⟨rfl, hB.trans (hBx.mono hB.size)⟩

end Go.Proofs.Ytlnfjjciilieeaa
