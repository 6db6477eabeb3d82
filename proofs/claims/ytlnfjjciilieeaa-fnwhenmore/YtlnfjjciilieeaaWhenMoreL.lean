/-
  The walk of the law FnWhenMore.
-/
import Derived.Test.YtlnfjjciilieeaaOfP
import Derived.Test.YtlnfjjciilieeaaDrawM
import Derived.Test.YtlnfjjciilieeaaFix
import Derived.Deep.DeepCutAuto
namespace Go.Proofs.Ytlnfjjciilieeaa
open Go.RowKit
set_option linter.unusedVariables false
set_option linter.unusedSimpArgs false

def WMI (mk : Value → Value → Value → Value → Value → Value → Value → Value → Value → Value → Value → Value → Value → Value → Act) (w0 : World) (V0 V1 V2 V3 V4 V5 V6 V7 V8 V9 V10 V11 : Value) (J0 : Sp) (J1 : Sp) (listed : Array Bool) (a : Act) (x : World) : Prop :=
  ∃ (b0 b1 b2 b3 b4 b5 b6 b7 b8 b9 b10 b11 b12 b13 b14 b15 : Bool) (s90 s91 s92 s93 s94 s95 s96 s97 s98 s89 s99 s100 s15 s16 : Value), listed = #[b0, b1, b2, b3, b4, b5, b6, b7, b8, b9, b10, b11, b12, b13, b14, b15] ∧ a = mk s90 s91 s92 s93 s94 s95 s96 s97 s98 s89 s99 s100 s15 s16 ∧ Below w0.heap.size w0 x ∧ (b0 = true → s90 = V0) ∧ (b1 = true → s91 = V1) ∧ (b2 = true → s92 = V2) ∧ (b3 = true → s93 = V3) ∧ (b4 = true → s94 = V4) ∧ (b5 = true → s95 = V5) ∧ (b6 = true → s96 = V6) ∧ (b7 = true → s97 = V7) ∧ (b8 = true → s98 = V8) ∧ (b9 = true → s89 = V9) ∧ (b10 = true → s99 = V10) ∧ (b11 = true → s100 = V11) ∧ PF w0 x b12 b14 s15 J0 ∧ PF w0 x b13 b15 s16 J1 ∧ Apart2 b12 b13 s15 s16

set_option maxRecDepth 100000 in
set_option maxHeartbeats 8000000 in
theorem whenMore_walk (a0 : Option Addr) (len0 cap0 : Nat) (z0 : List Int) (a1 : Option Addr) (len1 cap1 : Nat) (z1 : List Int) (w : World) (h0 : IsRow w a0 len0 cap0 z0) (h1 : IsRow w a1 len1 cap1 z1) :
    Calls Try.prog 9 #[.slice a0 len0 cap0, .slice a1 len1 cap1] w fun e w' => e = .returned (.bool true) ∧ Below w.heap.size w w' := by
  have hm0 := row_len h0
  have hm1 := row_len h1
  unfold maxLen at hm0 hm1
  by_cases hl0 : (1048576 : Int) < (len0 : Int)
  · clear h0 h1
    go_enter Try.func9, Try.ntmps9
    go_wp2
    go_ret
    exact ⟨rfl, by go_grown⟩
  by_cases hl1 : (1048576 : Int) < (len1 : Int)
  · clear h0 h1
    go_enter Try.func9, Try.ntmps9
    go_wp2
    go_ret
    exact ⟨rfl, by go_grown⟩
  go_enter Try.func9, Try.ntmps9
  go_wp2_with fail
  refine (drawSpanWhen_any a0 len0 cap0 z0 _ h0).mono ?_
  rintro e y1 hg
  obtain ⟨op, a, al, ah, b, bl, bh, yes, rfl, _, _, _, _, _, _, _, _, hb⟩ := hg.it
  clear hg h0
  have hB := hb
  clear hb
  replace h1 := IsRow.later h1 hB
  go_wp2_with fail
  have hG : Below y1.heap.size y1 ((y1.alloc (.cells #[.bool a, .int .i64 al, .int .i64 ah] 24)).alloc (.cells #[.bool b, .int .i64 bl, .int .i64 bh] 24)) := by go_grown
  have SA : Sp3 ((y1.alloc (.cells #[.bool a, .int .i64 al, .int .i64 ah] 24)).alloc (.cells #[.bool b, .int .i64 bl, .int .i64 bh] 24)) (y1.heap.size) a al ah := ⟨by go_size, by simp [go_sem], by simp [go_sem], by simp [go_sem], by simp [go_sem], by simp [go_sem], by simp [go_sem]⟩
  have SB : Sp3 ((y1.alloc (.cells #[.bool a, .int .i64 al, .int .i64 ah] 24)).alloc (.cells #[.bool b, .int .i64 bl, .int .i64 bh] 24)) (y1.heap.size + 1) b bl bh := ⟨by go_size, by simp [go_sem], by simp [go_sem], by simp [go_sem], by simp [go_sem], by simp [go_sem], by simp [go_sem]⟩
  replace h1 := IsRow.later h1 hG
  replace hB := hB.trans (hG.mono hB.size)
  clear hG
  generalize hgen : ((y1.alloc (.cells #[.bool a, .int .i64 al, .int .i64 ah] 24)).alloc (.cells #[.bool b, .int .i64 bl, .int .i64 bh] 24)) = y2 at SA SB h1 hB ⊢
  refine (drawSpanJoin_any a1 len1 cap1 z1 _ h1).mono ?_
  rintro e y3 hg
  obtain ⟨c, cl, ch, d, dl, dh, rfl, _, _, _, _, _, _, _, _, hb⟩ := hg.it
  clear hg
  replace SA := SA.later hb
  replace SB := SB.later hb
  replace h1 := IsRow.later h1 hb
  replace hB := hB.trans (hb.mono hB.size)
  clear hb
  clear h1
  obtain ⟨j1, j2, j3, i1, i2, i3, HW, Js, Ji⟩ := when_fix op a al ah b bl bh yes
  obtain ⟨nA, c0A, c1A, c2A, f0A, f1A, f2A⟩ := id SA
  obtain ⟨nB, c0B, c1B, c2B, f0B, f1B, f2B⟩ := id SB
  go_wp2_with fail
  clear nA c0A c1A c2A f0A f1A f2A nB c0B c1B c2B f0B f1B f2B
  have hG : Below y3.heap.size y3 ((y3.alloc (.cells #[.bool c, .int .i64 cl, .int .i64 ch] 24)).alloc (.cells #[.bool d, .int .i64 dl, .int .i64 dh] 24)) := by go_grown
  replace SA := SA.later hG
  replace SB := SB.later hG
  have SC : Sp3 ((y3.alloc (.cells #[.bool c, .int .i64 cl, .int .i64 ch] 24)).alloc (.cells #[.bool d, .int .i64 dl, .int .i64 dh] 24)) (y3.heap.size) c cl ch := ⟨by go_size, by simp [go_sem], by simp [go_sem], by simp [go_sem], by simp [go_sem], by simp [go_sem], by simp [go_sem]⟩
  have SD : Sp3 ((y3.alloc (.cells #[.bool c, .int .i64 cl, .int .i64 ch] 24)).alloc (.cells #[.bool d, .int .i64 dl, .int .i64 dh] 24)) (y3.heap.size + 1) d dl dh := ⟨by go_size, by simp [go_sem], by simp [go_sem], by simp [go_sem], by simp [go_sem], by simp [go_sem], by simp [go_sem]⟩
  replace hB := hB.trans (hG.mono hB.size)
  clear hG
  generalize hgen : ((y3.alloc (.cells #[.bool c, .int .i64 cl, .int .i64 ch] 24)).alloc (.cells #[.bool d, .int .i64 dl, .int .i64 dh] 24)) = y4 at SA SB SC SD  hB ⊢
  refine (Ji.out _).mono ?_
  rintro e y5 ⟨rfl, hb⟩
  replace SA := SA.later hb
  replace SB := SB.later hb
  replace SC := SC.later hb
  replace SD := SD.later hb
  replace hB := hB.trans (hb.mono hB.size)
  clear hb
  obtain ⟨nA, c0A, c1A, c2A, f0A, f1A, f2A⟩ := id SA
  obtain ⟨nB, c0B, c1B, c2B, f0B, f1B, f2B⟩ := id SB
  go_wp2_with fail
  clear nA c0A c1A c2A f0A f1A f2A nB c0B c1B c2B f0B f1B f2B
  have hG : Below y5.heap.size y5 ((y5.alloc (.cells #[.bool j1, .int .i64 j2, .int .i64 j3] 24)).alloc (.cells #[.bool i1, .int .i64 i2, .int .i64 i3] 24)) := by go_grown
  replace SA := SA.later hG
  replace SB := SB.later hG
  replace SC := SC.later hG
  replace SD := SD.later hG
  have SX : Sp3 ((y5.alloc (.cells #[.bool j1, .int .i64 j2, .int .i64 j3] 24)).alloc (.cells #[.bool i1, .int .i64 i2, .int .i64 i3] 24)) (y5.heap.size) j1 j2 j3 := ⟨by go_size, by simp [go_sem], by simp [go_sem], by simp [go_sem], by simp [go_sem], by simp [go_sem], by simp [go_sem]⟩
  have SY : Sp3 ((y5.alloc (.cells #[.bool j1, .int .i64 j2, .int .i64 j3] 24)).alloc (.cells #[.bool i1, .int .i64 i2, .int .i64 i3] 24)) (y5.heap.size + 1) i1 i2 i3 := ⟨by go_size, by simp [go_sem], by simp [go_sem], by simp [go_sem], by simp [go_sem], by simp [go_sem], by simp [go_sem]⟩
  replace hB := hB.trans (hG.mono hB.size)
  clear hG
  generalize hgen : ((y5.alloc (.cells #[.bool j1, .int .i64 j2, .int .i64 j3] 24)).alloc (.cells #[.bool i1, .int .i64 i2, .int .i64 i3] 24)) = y6 at SA SB SC SD SX SY  hB ⊢
  refine (Js.out _).mono ?_
  rintro e y7 ⟨rfl, hb⟩
  replace SA := SA.later hb
  replace SB := SB.later hb
  replace SC := SC.later hb
  replace SD := SD.later hb
  replace SX := SX.later hb
  replace SY := SY.later hb
  replace hB := hB.trans (hb.mono hB.size)
  clear hb
  obtain ⟨nA, c0A, c1A, c2A, f0A, f1A, f2A⟩ := id SA
  obtain ⟨nX, c0X, c1X, c2X, f0X, f1X, f2X⟩ := id SX
  obtain ⟨nY, c0Y, c1Y, c2Y, f0Y, f1Y, f2Y⟩ := id SY
  go_wp2_with fail
  clear nA c0A c1A c2A f0A f1A f2A nX c0X c1X c2X f0X f1X f2X nY c0Y c1Y c2Y f0Y f1Y f2Y
  have hG : Below y7.heap.size y7 ((y7.alloc (.cells #[.bool j1, .int .i64 j2, .int .i64 j3] 24)).alloc (.cells #[.bool i1, .int .i64 i2, .int .i64 i3] 24)) := by go_grown
  replace SA := SA.later hG
  replace SB := SB.later hG
  replace SC := SC.later hG
  replace SD := SD.later hG
  replace SX := SX.later hG
  replace SY := SY.later hG
  have SWX : Sp3 ((y7.alloc (.cells #[.bool j1, .int .i64 j2, .int .i64 j3] 24)).alloc (.cells #[.bool i1, .int .i64 i2, .int .i64 i3] 24)) (y7.heap.size) j1 j2 j3 := ⟨by go_size, by simp [go_sem], by simp [go_sem], by simp [go_sem], by simp [go_sem], by simp [go_sem], by simp [go_sem]⟩
  have SWY : Sp3 ((y7.alloc (.cells #[.bool j1, .int .i64 j2, .int .i64 j3] 24)).alloc (.cells #[.bool i1, .int .i64 i2, .int .i64 i3] 24)) (y7.heap.size + 1) i1 i2 i3 := ⟨by go_size, by simp [go_sem], by simp [go_sem], by simp [go_sem], by simp [go_sem], by simp [go_sem], by simp [go_sem]⟩
  replace hB := hB.trans (hG.mono hB.size)
  clear hG
  generalize hgen : ((y7.alloc (.cells #[.bool j1, .int .i64 j2, .int .i64 j3] 24)).alloc (.cells #[.bool i1, .int .i64 i2, .int .i64 i3] 24)) = y8 at SA SB SC SD SX SY SWX SWY  hB ⊢
  cases ho0 : okF a al ah
  · have HO : Hid (okF a al ah = false) := ho0
    clear ho0
    refine (ok_at HO.out _).mono ?_
    rintro e y9 ⟨rfl, hb⟩
    replace SA := SA.later hb
    replace SB := SB.later hb
    replace SC := SC.later hb
    replace SD := SD.later hb
    replace SX := SX.later hb
    replace SY := SY.later hb
    replace SWX := SWX.later hb
    replace SWY := SWY.later hb
    replace hB := hB.trans (hb.mono hB.size)
    clear hb
    obtain ⟨nX, c0X, c1X, c2X, f0X, f1X, f2X⟩ := id SX
    obtain ⟨nY, c0Y, c1Y, c2Y, f0Y, f1Y, f2Y⟩ := id SY
    obtain ⟨nWX, c0WX, c1WX, c2WX, f0WX, f1WX, f2WX⟩ := id SWX
    obtain ⟨nWY, c0WY, c1WY, c2WY, f0WY, f1WY, f2WY⟩ := id SWY
    go_wp2_with fail
    go_ret
    exact ⟨rfl, by go_grown⟩
  · have HO0 : Hid (okF a al ah = true) := ho0
    clear ho0
    refine (ok_at HO0.out _).mono ?_
    rintro e y9 ⟨rfl, hb⟩
    replace SA := SA.later hb
    replace SB := SB.later hb
    replace SC := SC.later hb
    replace SD := SD.later hb
    replace SX := SX.later hb
    replace SY := SY.later hb
    replace SWX := SWX.later hb
    replace SWY := SWY.later hb
    replace hB := hB.trans (hb.mono hB.size)
    clear hb
    obtain ⟨nB, c0B, c1B, c2B, f0B, f1B, f2B⟩ := id SB
    go_wp2_with fail
    clear nB c0B c1B c2B f0B f1B f2B
    cases ho1 : okF b bl bh
    · have HO : Hid (okF b bl bh = false) := ho1
      clear ho1
      refine (ok_at HO.out _).mono ?_
      rintro e y10 ⟨rfl, hb⟩
      replace SA := SA.later hb
      replace SB := SB.later hb
      replace SC := SC.later hb
      replace SD := SD.later hb
      replace SX := SX.later hb
      replace SY := SY.later hb
      replace SWX := SWX.later hb
      replace SWY := SWY.later hb
      replace hB := hB.trans (hb.mono hB.size)
      clear hb
      obtain ⟨nX, c0X, c1X, c2X, f0X, f1X, f2X⟩ := id SX
      obtain ⟨nY, c0Y, c1Y, c2Y, f0Y, f1Y, f2Y⟩ := id SY
      obtain ⟨nWX, c0WX, c1WX, c2WX, f0WX, f1WX, f2WX⟩ := id SWX
      obtain ⟨nWY, c0WY, c1WY, c2WY, f0WY, f1WY, f2WY⟩ := id SWY
      go_wp2_with fail
      go_ret
      exact ⟨rfl, by go_grown⟩
    · have HO1 : Hid (okF b bl bh = true) := ho1
      clear ho1
      refine (ok_at HO1.out _).mono ?_
      rintro e y10 ⟨rfl, hb⟩
      replace SA := SA.later hb
      replace SB := SB.later hb
      replace SC := SC.later hb
      replace SD := SD.later hb
      replace SX := SX.later hb
      replace SY := SY.later hb
      replace SWX := SWX.later hb
      replace SWY := SWY.later hb
      replace hB := hB.trans (hb.mono hB.size)
      clear hb
      obtain ⟨nC, c0C, c1C, c2C, f0C, f1C, f2C⟩ := id SC
      go_wp2_with fail
      clear nC c0C c1C c2C f0C f1C f2C
      cases ho2 : okF c cl ch
      · have HO : Hid (okF c cl ch = false) := ho2
        clear ho2
        refine (ok_at HO.out _).mono ?_
        rintro e y11 ⟨rfl, hb⟩
        replace SA := SA.later hb
        replace SB := SB.later hb
        replace SC := SC.later hb
        replace SD := SD.later hb
        replace SX := SX.later hb
        replace SY := SY.later hb
        replace SWX := SWX.later hb
        replace SWY := SWY.later hb
        replace hB := hB.trans (hb.mono hB.size)
        clear hb
        obtain ⟨nX, c0X, c1X, c2X, f0X, f1X, f2X⟩ := id SX
        obtain ⟨nY, c0Y, c1Y, c2Y, f0Y, f1Y, f2Y⟩ := id SY
        obtain ⟨nWX, c0WX, c1WX, c2WX, f0WX, f1WX, f2WX⟩ := id SWX
        obtain ⟨nWY, c0WY, c1WY, c2WY, f0WY, f1WY, f2WY⟩ := id SWY
        go_wp2_with fail
        go_ret
        exact ⟨rfl, by go_grown⟩
      · have HO2 : Hid (okF c cl ch = true) := ho2
        clear ho2
        refine (ok_at HO2.out _).mono ?_
        rintro e y11 ⟨rfl, hb⟩
        replace SA := SA.later hb
        replace SB := SB.later hb
        replace SC := SC.later hb
        replace SD := SD.later hb
        replace SX := SX.later hb
        replace SY := SY.later hb
        replace SWX := SWX.later hb
        replace SWY := SWY.later hb
        replace hB := hB.trans (hb.mono hB.size)
        clear hb
        obtain ⟨nD, c0D, c1D, c2D, f0D, f1D, f2D⟩ := id SD
        go_wp2_with fail
        clear nD c0D c1D c2D f0D f1D f2D
        cases ho3 : okF d dl dh
        · have HO : Hid (okF d dl dh = false) := ho3
          clear ho3
          refine (ok_at HO.out _).mono ?_
          rintro e y12 ⟨rfl, hb⟩
          replace SA := SA.later hb
          replace SB := SB.later hb
          replace SC := SC.later hb
          replace SD := SD.later hb
          replace SX := SX.later hb
          replace SY := SY.later hb
          replace SWX := SWX.later hb
          replace SWY := SWY.later hb
          replace hB := hB.trans (hb.mono hB.size)
          clear hb
          obtain ⟨nX, c0X, c1X, c2X, f0X, f1X, f2X⟩ := id SX
          obtain ⟨nY, c0Y, c1Y, c2Y, f0Y, f1Y, f2Y⟩ := id SY
          obtain ⟨nWX, c0WX, c1WX, c2WX, f0WX, f1WX, f2WX⟩ := id SWX
          obtain ⟨nWY, c0WY, c1WY, c2WY, f0WY, f1WY, f2WY⟩ := id SWY
          go_wp2_with fail
          go_ret
          exact ⟨rfl, by go_grown⟩
        · have HO3 : Hid (okF d dl dh = true) := ho3
          clear ho3
          refine (ok_at HO3.out _).mono ?_
          rintro e y12 ⟨rfl, hb⟩
          replace SA := SA.later hb
          replace SB := SB.later hb
          replace SC := SC.later hb
          replace SD := SD.later hb
          replace SX := SX.later hb
          replace SY := SY.later hb
          replace SWX := SWX.later hb
          replace SWY := SWY.later hb
          replace hB := hB.trans (hb.mono hB.size)
          clear hb
          obtain ⟨p, pl, ph, hp⟩ : ∃ p pl ph, Hid (joinF a al ah c cl ch = (p, pl, ph)) := ⟨_, _, _, rfl⟩
          obtain ⟨q, ql, qh, hq⟩ : ∃ q ql qh, Hid (joinF b bl bh d dl dh = (q, ql, qh)) := ⟨_, _, _, rfl⟩
          obtain ⟨k1, k2, k3, m1, m2, m3, HV, Ks, Ki⟩ := when_fix op p pl ph q ql qh yes
          have hm := when_more HO0.out HO1.out HO2.out HO3.out hp.out hq.out HW.out HV.out
          have HI1 : Hid (inF j1 j2 j3 k1 k2 k3 = true) := hm.1
          have HI2 : Hid (inF i1 i2 i3 m1 m2 m3 = true) := hm.2
          clear hm Js Ji Ks HW HV
          go_wp2_with fail
          have hB_ := hB
          go_cut [15, 16] (fun s15 s16 x => ∃ m k : Nat, s15 = .pointer (some ⟨m, 0, none⟩) ∧ s16 = .pointer (some ⟨k, 0, none⟩) ∧ Below w.heap.size w x ∧ Sp3 x (y5.heap.size) j1 j2 j3 ∧ Sp3 x (y5.heap.size + 1) i1 i2 i3 ∧ Sp3 x m k1 k2 k3 ∧ Sp3 x k m1 m2 m3)
          case first =>
            refine wp_region_inv (by kernel_rfl) (by kernel_rfl) (WMI (fun s90 s91 s92 s93 s94 s95 s96 s97 s98 s89 s99 s100 s15 s16 => ⟨#[Value.slice a0 len0 cap0, Value.slice a1 len1 cap1, undef, undef, Value.bool false, Value.int IntKind.i64 op, Value.pointer (some { block := y1.heap.size, off := 0 }), Value.pointer (some { block := y1.heap.size + 1, off := 0 }), Value.bool yes, Value.pointer (some { block := y3.heap.size, off := 0 }), Value.pointer (some { block := y3.heap.size + 1, off := 0 }), Value.pointer (some { block := y5.heap.size, off := 0 }), Value.pointer (some { block := y5.heap.size + 1, off := 0 }), Value.pointer (some { block := y7.heap.size, off := 0 }), Value.pointer (some { block := y7.heap.size + 1, off := 0 }), s15, s16, Value.slice a0 len0 cap0, Value.int IntKind.i64 ↑len0, Value.bool false, Value.bool false, Value.slice a1 len1 cap1, Value.int IntKind.i64 ↑len1, Value.bool false, Value.bool false, Value.tuple #[Value.int IntKind.i64 op, Value.agg #[Value.bool a, Value.int IntKind.i64 al, Value.int IntKind.i64 ah], Value.agg #[Value.bool b, Value.int IntKind.i64 bl, Value.int IntKind.i64 bh], Value.bool yes], Value.slice a0 len0 cap0, Value.tuple #[Value.int IntKind.i64 op, Value.agg #[Value.bool a, Value.int IntKind.i64 al, Value.int IntKind.i64 ah], Value.agg #[Value.bool b, Value.int IntKind.i64 bl, Value.int IntKind.i64 bh], Value.bool yes], Value.int IntKind.i64 op, Value.agg #[Value.bool a, Value.int IntKind.i64 al, Value.int IntKind.i64 ah], Value.agg #[Value.bool b, Value.int IntKind.i64 bl, Value.int IntKind.i64 bh], Value.bool yes, Value.tuple #[Value.agg #[Value.bool c, Value.int IntKind.i64 cl, Value.int IntKind.i64 ch], Value.agg #[Value.bool d, Value.int IntKind.i64 dl, Value.int IntKind.i64 dh]], Value.slice a1 len1 cap1, Value.tuple #[Value.agg #[Value.bool c, Value.int IntKind.i64 cl, Value.int IntKind.i64 ch], Value.agg #[Value.bool d, Value.int IntKind.i64 dl, Value.int IntKind.i64 dh]], Value.agg #[Value.bool c, Value.int IntKind.i64 cl, Value.int IntKind.i64 ch], Value.agg #[Value.bool d, Value.int IntKind.i64 dl, Value.int IntKind.i64 dh], Value.tuple #[Value.agg #[Value.bool j1, Value.int IntKind.i64 j2, Value.int IntKind.i64 j3], Value.agg #[Value.bool i1, Value.int IntKind.i64 i2, Value.int IntKind.i64 i3]], Value.int IntKind.i64 op, Value.agg #[Value.bool a, Value.int IntKind.i64 al, Value.int IntKind.i64 ah], Value.agg #[Value.bool b, Value.int IntKind.i64 bl, Value.int IntKind.i64 bh], Value.bool yes, Value.tuple #[Value.agg #[Value.bool j1, Value.int IntKind.i64 j2, Value.int IntKind.i64 j3], Value.agg #[Value.bool i1, Value.int IntKind.i64 i2, Value.int IntKind.i64 i3]], Value.agg #[Value.bool j1, Value.int IntKind.i64 j2, Value.int IntKind.i64 j3], Value.agg #[Value.bool i1, Value.int IntKind.i64 i2, Value.int IntKind.i64 i3], Value.tuple #[Value.agg #[Value.bool j1, Value.int IntKind.i64 j2, Value.int IntKind.i64 j3], Value.agg #[Value.bool i1, Value.int IntKind.i64 i2, Value.int IntKind.i64 i3]], Value.int IntKind.i64 op, Value.agg #[Value.bool a, Value.int IntKind.i64 al, Value.int IntKind.i64 ah], Value.agg #[Value.bool b, Value.int IntKind.i64 bl, Value.int IntKind.i64 bh], Value.bool yes, Value.tuple #[Value.agg #[Value.bool j1, Value.int IntKind.i64 j2, Value.int IntKind.i64 j3], Value.agg #[Value.bool i1, Value.int IntKind.i64 i2, Value.int IntKind.i64 i3]], Value.agg #[Value.bool j1, Value.int IntKind.i64 j2, Value.int IntKind.i64 j3], Value.agg #[Value.bool i1, Value.int IntKind.i64 i2, Value.int IntKind.i64 i3], Value.agg #[Value.bool j1, Value.int IntKind.i64 j2, Value.int IntKind.i64 j3], Value.agg #[Value.bool j1, Value.int IntKind.i64 j2, Value.int IntKind.i64 j3], Value.bool false, Value.bool false, Value.agg #[Value.bool i1, Value.int IntKind.i64 i2, Value.int IntKind.i64 i3], Value.agg #[Value.bool i1, Value.int IntKind.i64 i2, Value.int IntKind.i64 i3], Value.bool false, Value.bool false, Value.bool false, Value.agg #[Value.bool a, Value.int IntKind.i64 al, Value.int IntKind.i64 ah], Value.bool true, Value.bool false, Value.bool false, Value.bool false, Value.agg #[Value.bool b, Value.int IntKind.i64 bl, Value.int IntKind.i64 bh], Value.bool true, Value.bool false, Value.bool false, Value.bool false, Value.agg #[Value.bool c, Value.int IntKind.i64 cl, Value.int IntKind.i64 ch], Value.bool true, Value.bool false, Value.bool false, Value.bool false, Value.agg #[Value.bool d, Value.int IntKind.i64 dl, Value.int IntKind.i64 dh], Value.bool true, Value.bool false, Value.bool false, undef, undef, undef, undef, undef, undef, undef, undef, s89, s90, s91, s92, s93, s94, s95, s96, s97, s98, s99, s100, undef, undef, undef, undef, undef, undef, undef, undef], []⟩) y12 (.int .i64 op) (.agg #[.bool a, .int .i64 al, .int .i64 ah]) (.agg #[.bool c, .int .i64 cl, .int .i64 ch]) (.agg #[.bool p, .int .i64 pl, .int .i64 ph]) (.agg #[.bool b, .int .i64 bl, .int .i64 bh]) (.agg #[.bool d, .int .i64 dl, .int .i64 dh]) (.agg #[.bool q, .int .i64 ql, .int .i64 qh]) (.bool yes) (.tuple #[.agg #[.bool k1, .int .i64 k2, .int .i64 k3], .agg #[.bool m1, .int .i64 m2, .int .i64 m3]]) (.tuple #[.agg #[.bool k1, .int .i64 k2, .int .i64 k3], .agg #[.bool m1, .int .i64 m2, .int .i64 m3]]) (.agg #[.bool k1, .int .i64 k2, .int .i64 k3]) (.agg #[.bool m1, .int .i64 m2, .int .i64 m3]) (k1, k2, k3) (m1, m2, m3)) ?start ?step ?fin
            case start =>
              exact ⟨false, false, false, false, false, false, false, false, false, false, false, false, false, false, false, false, _, _, _, _, _, _, _, _, _, _, _, _, _, _, rfl, rfl, Below.drew (Below.refl _ _), (fun h => by cases h), (fun h => by cases h), (fun h => by cases h), (fun h => by cases h), (fun h => by cases h), (fun h => by cases h), (fun h => by cases h), (fun h => by cases h), (fun h => by cases h), (fun h => by cases h), (fun h => by cases h), (fun h => by cases h), PF.non, PF.non, (fun h => by cases h)⟩
            case step =>
              intro listed a x hI i o ho hun hpre
              obtain ⟨b0, b1, b2, b3, b4, b5, b6, b7, b8, b9, b10, b11, b12, b13, b14, b15, s90, s91, s92, s93, s94, s95, s96, s97, s98, s89, s99, s100, s15, s16, rfl, rfl, hB, h0, h1, h2, h3, h4, h5, h6, h7, h8, h9, h10, h11, p0, p1, g01⟩ := hI
              rcases i with _ | i
              · obtain rfl := Option.some.inj ho
                refine wpOp_of ho rfl fun K hK => ?_
                clear ho hpre
                go_simp
                exact hK _ _ ⟨true, b1, b2, b3, b4, b5, b6, b7, b8, b9, b10, b11, b12, b13, b14, b15, _, s91, s92, s93, s94, s95, s96, s97, s98, s89, s99, s100, s15, s16, rfl, rfl, hB, fun _ => rfl, h1, h2, h3, h4, h5, h6, h7, h8, h9, h10, h11, p0, p1, g01⟩
              rcases i with _ | i
              · obtain rfl := Option.some.inj ho
                refine wpOp_of ho rfl fun K hK => ?_
                clear ho hpre
                obtain ⟨n, c0, c1, c2, f0, f1, f2⟩ := SA.later hB
                go_simp
                exact hK _ _ ⟨b0, true, b2, b3, b4, b5, b6, b7, b8, b9, b10, b11, b12, b13, b14, b15, s90, _, s92, s93, s94, s95, s96, s97, s98, s89, s99, s100, s15, s16, rfl, rfl, hB, h0, fun _ => rfl, h2, h3, h4, h5, h6, h7, h8, h9, h10, h11, p0, p1, g01⟩
              rcases i with _ | i
              · obtain rfl := Option.some.inj ho
                refine wpOp_of ho rfl fun K hK => ?_
                clear ho hpre
                obtain ⟨n, c0, c1, c2, f0, f1, f2⟩ := SC.later hB
                go_simp
                exact hK _ _ ⟨b0, b1, true, b3, b4, b5, b6, b7, b8, b9, b10, b11, b12, b13, b14, b15, s90, s91, _, s93, s94, s95, s96, s97, s98, s89, s99, s100, s15, s16, rfl, rfl, hB, h0, h1, fun _ => rfl, h3, h4, h5, h6, h7, h8, h9, h10, h11, p0, p1, g01⟩
              rcases i with _ | i
              · obtain rfl := Option.some.inj ho
                have q1 : b1 = true := hpre ⟨1, .data⟩ (by simp) rfl
                have e1 := h1 q1
                subst e1
                have q2 : b2 = true := hpre ⟨2, .data⟩ (by simp) rfl
                have e2 := h2 q2
                subst e2
                refine wpOp_of ho rfl fun K hK => ?_
                clear ho hpre
                go_simp
                refine (join_at hp.out _).mono ?_
                rintro e w' ⟨rfl, hb⟩
                exact hK _ _ ⟨b0, b1, b2, true, b4, b5, b6, b7, b8, b9, b10, b11, b12, b13, b14, b15, s90, _, _, _, s94, s95, s96, s97, s98, s89, s99, s100, s15, s16, rfl, rfl, hB.trans (hb.mono hB.size), h0, h1, h2, fun _ => rfl, h4, h5, h6, h7, h8, h9, h10, h11, p0.later hb, p1.later hb, g01⟩
              rcases i with _ | i
              · obtain rfl := Option.some.inj ho
                refine wpOp_of ho rfl fun K hK => ?_
                clear ho hpre
                obtain ⟨n, c0, c1, c2, f0, f1, f2⟩ := SB.later hB
                go_simp
                exact hK _ _ ⟨b0, b1, b2, b3, true, b5, b6, b7, b8, b9, b10, b11, b12, b13, b14, b15, s90, s91, s92, s93, _, s95, s96, s97, s98, s89, s99, s100, s15, s16, rfl, rfl, hB, h0, h1, h2, h3, fun _ => rfl, h5, h6, h7, h8, h9, h10, h11, p0, p1, g01⟩
              rcases i with _ | i
              · obtain rfl := Option.some.inj ho
                refine wpOp_of ho rfl fun K hK => ?_
                clear ho hpre
                obtain ⟨n, c0, c1, c2, f0, f1, f2⟩ := SD.later hB
                go_simp
                exact hK _ _ ⟨b0, b1, b2, b3, b4, true, b6, b7, b8, b9, b10, b11, b12, b13, b14, b15, s90, s91, s92, s93, s94, _, s96, s97, s98, s89, s99, s100, s15, s16, rfl, rfl, hB, h0, h1, h2, h3, h4, fun _ => rfl, h6, h7, h8, h9, h10, h11, p0, p1, g01⟩
              rcases i with _ | i
              · obtain rfl := Option.some.inj ho
                have q4 : b4 = true := hpre ⟨4, .data⟩ (by simp) rfl
                have e4 := h4 q4
                subst e4
                have q5 : b5 = true := hpre ⟨5, .data⟩ (by simp) rfl
                have e5 := h5 q5
                subst e5
                refine wpOp_of ho rfl fun K hK => ?_
                clear ho hpre
                go_simp
                refine (join_at hq.out _).mono ?_
                rintro e w' ⟨rfl, hb⟩
                exact hK _ _ ⟨b0, b1, b2, b3, b4, b5, true, b7, b8, b9, b10, b11, b12, b13, b14, b15, s90, s91, s92, s93, _, _, _, s97, s98, s89, s99, s100, s15, s16, rfl, rfl, hB.trans (hb.mono hB.size), h0, h1, h2, h3, h4, h5, fun _ => rfl, h7, h8, h9, h10, h11, p0.later hb, p1.later hb, g01⟩
              rcases i with _ | i
              · obtain rfl := Option.some.inj ho
                refine wpOp_of ho rfl fun K hK => ?_
                clear ho hpre
                go_simp
                exact hK _ _ ⟨b0, b1, b2, b3, b4, b5, b6, true, b8, b9, b10, b11, b12, b13, b14, b15, s90, s91, s92, s93, s94, s95, s96, _, s98, s89, s99, s100, s15, s16, rfl, rfl, hB, h0, h1, h2, h3, h4, h5, h6, fun _ => rfl, h8, h9, h10, h11, p0, p1, g01⟩
              rcases i with _ | i
              · obtain rfl := Option.some.inj ho
                have q0 : b0 = true := hpre ⟨0, .data⟩ (by simp) rfl
                have e0 := h0 q0
                subst e0
                have q3 : b3 = true := hpre ⟨3, .data⟩ (by simp) rfl
                have e3 := h3 q3
                subst e3
                have q6 : b6 = true := hpre ⟨6, .data⟩ (by simp) rfl
                have e6 := h6 q6
                subst e6
                have q7 : b7 = true := hpre ⟨7, .data⟩ (by simp) rfl
                have e7 := h7 q7
                subst e7
                refine wpOp_of ho rfl fun K hK => ?_
                clear ho hpre
                go_simp
                refine (Ki.out _).mono ?_
                rintro e w' ⟨rfl, hb⟩
                exact hK _ _ ⟨b0, b1, b2, b3, b4, b5, b6, b7, true, b9, b10, b11, b12, b13, b14, b15, _, s91, s92, _, s94, s95, _, _, _, s89, s99, s100, s15, s16, rfl, rfl, hB.trans (hb.mono hB.size), h0, h1, h2, h3, h4, h5, h6, h7, fun _ => rfl, h9, h10, h11, p0.later hb, p1.later hb, g01⟩
              rcases i with _ | i
              · obtain rfl := Option.some.inj ho
                have q8 : b8 = true := hpre ⟨8, .data⟩ (by simp) rfl
                have e8 := h8 q8
                subst e8
                refine wpOp_of ho rfl fun K hK => ?_
                clear ho hpre
                go_simp
                exact hK _ _ ⟨b0, b1, b2, b3, b4, b5, b6, b7, b8, true, b10, b11, b12, b13, b14, b15, s90, s91, s92, s93, s94, s95, s96, s97, _, _, s99, s100, s15, s16, rfl, rfl, hB, h0, h1, h2, h3, h4, h5, h6, h7, h8, fun _ => rfl, h10, h11, p0, p1, g01⟩
              rcases i with _ | i
              · obtain rfl := Option.some.inj ho
                have q9 : b9 = true := hpre ⟨9, .data⟩ (by simp) rfl
                have e9 := h9 q9
                subst e9
                refine wpOp_of ho rfl fun K hK => ?_
                clear ho hpre
                go_simp
                exact hK _ _ ⟨b0, b1, b2, b3, b4, b5, b6, b7, b8, b9, true, b11, b12, b13, b14, b15, s90, s91, s92, s93, s94, s95, s96, s97, s98, _, _, s100, s15, s16, rfl, rfl, hB, h0, h1, h2, h3, h4, h5, h6, h7, h8, h9, fun _ => rfl, h11, p0, p1, g01⟩
              rcases i with _ | i
              · obtain rfl := Option.some.inj ho
                have q9 : b9 = true := hpre ⟨9, .data⟩ (by simp) rfl
                have e9 := h9 q9
                subst e9
                refine wpOp_of ho rfl fun K hK => ?_
                clear ho hpre
                go_simp
                exact hK _ _ ⟨b0, b1, b2, b3, b4, b5, b6, b7, b8, b9, b10, true, b12, b13, b14, b15, s90, s91, s92, s93, s94, s95, s96, s97, s98, _, s99, _, s15, s16, rfl, rfl, hB, h0, h1, h2, h3, h4, h5, h6, h7, h8, h9, h10, fun _ => rfl, p0, p1, g01⟩
              rcases i with _ | i
              · obtain rfl := Option.some.inj ho
                refine wpOp_of ho rfl fun K hK => ?_
                clear ho hpre
                have e : b12 = false := hun
                subst e
                clear hun
                go_simp
                exact hK _ _ ⟨b0, b1, b2, b3, b4, b5, b6, b7, b8, b9, b10, b11, true, b13, b14, b15, s90, s91, s92, s93, s94, s95, s96, s97, s98, s89, s99, s100, _, s16, rfl, rfl, hB.alloc hB.size _, h0, h1, h2, h3, h4, h5, h6, h7, h8, h9, h10, h11, p0.made hB _ _ _, p1.later (Below.alloc (Below.refl _ _) (Nat.le_refl _) _), Apart2.fst p1⟩
              rcases i with _ | i
              · obtain rfl := Option.some.inj ho
                refine wpOp_of ho rfl fun K hK => ?_
                clear ho hpre
                have e : b13 = false := hun
                subst e
                clear hun
                go_simp
                exact hK _ _ ⟨b0, b1, b2, b3, b4, b5, b6, b7, b8, b9, b10, b11, b12, true, b14, b15, s90, s91, s92, s93, s94, s95, s96, s97, s98, s89, s99, s100, s15, _, rfl, rfl, hB.alloc hB.size _, h0, h1, h2, h3, h4, h5, h6, h7, h8, h9, h10, h11, p0.later (Below.alloc (Below.refl _ _) (Nat.le_refl _) _), p1.made hB _ _ _, Apart2.snd p0⟩
              rcases i with _ | i
              · obtain rfl := Option.some.inj ho
                have q12 : b12 = true := hpre ⟨12, .data⟩ (by simp) rfl
                have q10 : b10 = true := hpre ⟨10, .data⟩ (by simp) rfl
                have e10 := h10 q10
                subst e10
                refine wpOp_of ho rfl fun K hK => ?_
                clear ho hpre
                obtain ⟨m, a0, l0, u0, e0, hm, sp, _⟩ := p0.at_ q12
                subst e0
                subst q12
                obtain ⟨n, c0, c1, c2, f0, f1, f2⟩ := id sp
                go_simp
                exact hK _ _ ⟨b0, b1, b2, b3, b4, b5, b6, b7, b8, b9, b10, b11, true, b13, true, b15, s90, s91, s92, s93, s94, s95, s96, s97, s98, s89, _, s100, _, s16, rfl, rfl, below_set3 hB hm, h0, h1, h2, h3, h4, h5, h6, h7, h8, h9, h10, h11, PF.set hm sp, PF.off p1 (fun q e => g01 rfl q m rfl e), g01⟩
              rcases i with _ | i
              · obtain rfl := Option.some.inj ho
                have q13 : b13 = true := hpre ⟨13, .data⟩ (by simp) rfl
                have q11 : b11 = true := hpre ⟨11, .data⟩ (by simp) rfl
                have e11 := h11 q11
                subst e11
                refine wpOp_of ho rfl fun K hK => ?_
                clear ho hpre
                obtain ⟨m, a0, l0, u0, e0, hm, sp, _⟩ := p1.at_ q13
                subst e0
                subst q13
                obtain ⟨n, c0, c1, c2, f0, f1, f2⟩ := id sp
                go_simp
                exact hK _ _ ⟨b0, b1, b2, b3, b4, b5, b6, b7, b8, b9, b10, b11, b12, true, b14, true, s90, s91, s92, s93, s94, s95, s96, s97, s98, s89, s99, _, s15, _, rfl, rfl, below_set3 hB hm, h0, h1, h2, h3, h4, h5, h6, h7, h8, h9, h10, h11, PF.off p0 (fun q e => g01 q rfl m e rfl), PF.set hm sp, g01⟩
              cases ho
            case fin =>
              intro listed a x hI hall
              obtain ⟨b0, b1, b2, b3, b4, b5, b6, b7, b8, b9, b10, b11, b12, b13, b14, b15, s90, s91, s92, s93, s94, s95, s96, s97, s98, s89, s99, s100, s15, s16, rfl, rfl, hB, h0, h1, h2, h3, h4, h5, h6, h7, h8, h9, h10, h11, p0, p1, g01⟩ := hI
              have q12 : b12 = true := hall 12 (by simp)
              have q13 : b13 = true := hall 13 (by simp)
              have q14 : b14 = true := hall 14 (by simp)
              have q15 : b15 = true := hall 15 (by simp)
              obtain ⟨m0, a0, l0, u0, e0, hm0, sp0, hv0⟩ := p0.at_ q12
              have hv := hv0 q14
              obtain ⟨rfl, rfl, rfl⟩ : a0 = (k1, k2, k3).1 ∧ l0 = (k1, k2, k3).2.1 ∧ u0 = (k1, k2, k3).2.2 := by rw [← hv]; exact ⟨rfl, rfl, rfl⟩
              clear hv hv0
              subst e0
              obtain ⟨m1_, a1, l1, u1, e1, hm1, sp1, hv1⟩ := p1.at_ q13
              have hv := hv1 q15
              obtain ⟨rfl, rfl, rfl⟩ : a1 = (m1, m2, m3).1 ∧ l1 = (m1, m2, m3).2.1 ∧ u1 = (m1, m2, m3).2.2 := by rw [← hv]; exact ⟨rfl, rfl, rfl⟩
              clear hv hv1
              subst e1
              go_wp2_with fail
              go_meet
              exact ⟨m0, m1_, rfl, rfl, hB_.trans (hB.mono hB_.size), SX.later hB, SY.later hB, sp0, sp1⟩
          case rest =>
          obtain ⟨m, k, rfl, rfl, hB, SX, SY, SU, SV⟩ := hcut
          obtain ⟨nX, c0X, c1X, c2X, f0X, f1X, f2X⟩ := id SX
          obtain ⟨nU, c0U, c1U, c2U, f0U, f1U, f2U⟩ := id SU
          go_wp2_with fail
          clear nX c0X c1X c2X f0X f1X f2X nU c0U c1U c2U f0U f1U f2U
          refine (in_at HI1.out _).mono ?_
          rintro e y13 ⟨rfl, hb⟩
          replace SX := SX.later hb
          replace SY := SY.later hb
          replace SU := SU.later hb
          replace SV := SV.later hb
          replace hB := hB.trans (hb.mono hB.size)
          clear hb
          obtain ⟨nY, c0Y, c1Y, c2Y, f0Y, f1Y, f2Y⟩ := id SY
          obtain ⟨nV, c0V, c1V, c2V, f0V, f1V, f2V⟩ := id SV
          go_wp2_with fail
          clear nY c0Y c1Y c2Y f0Y f1Y f2Y nV c0V c1V c2V f0V f1V f2V
          refine (in_at HI2.out _).mono ?_
          rintro e y14 ⟨rfl, hb⟩
          replace SX := SX.later hb
          replace SY := SY.later hb
          replace SU := SU.later hb
          replace SV := SV.later hb
          replace hB := hB.trans (hb.mono hB.size)
          clear hb
          go_wp2_with fail
          go_ret
          exact ⟨rfl, by assumption⟩

end Go.Proofs.Ytlnfjjciilieeaa
