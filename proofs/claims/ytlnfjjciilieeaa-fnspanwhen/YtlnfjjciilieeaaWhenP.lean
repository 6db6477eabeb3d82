/-
  The walk of the law FnSpanWhen.
-/
import Derived.Test.YtlnfjjciilieeaaOfP
import Derived.Test.YtlnfjjciilieeaaDrawM
import Derived.Test.YtlnfjjciilieeaaWhenN
import Derived.Test.YtlnfjjciilieeaaUpd
import Derived.Deep.DeepCutAuto
namespace Go.Proofs.Ytlnfjjciilieeaa
open Go.RowKit
set_option linter.unusedVariables false
set_option linter.unusedSimpArgs false

set_option maxRecDepth 100000 in
set_option maxHeartbeats 16000000 in
theorem spanWhen_walk (a0 : Option Addr) (len0 cap0 : Nat) (z0 : List Int) (w : World) (h0 : IsRow w a0 len0 cap0 z0) :
    Calls Try.prog 8 #[.slice a0 len0 cap0] w fun e w' => e = .returned (.bool true) ∧ Below w.heap.size w w' := by
  have hm0 := row_len h0
  unfold maxLen at hm0
  by_cases hl0 : (1048576 : Int) < (len0 : Int)
  · clear h0
    go_enter Try.func8, Try.ntmps8
    go_wp2
    go_ret
    exact ⟨rfl, by go_grown⟩
  go_enter Try.func8, Try.ntmps8
  go_wp2_with fail
  refine (drawSpanWhen_any a0 len0 cap0 z0 _ h0).mono ?_
  rintro e y1 hg
  obtain ⟨op, a, al, ah, b, bl, bh, yes, rfl, _, _, _, _, _, _, _, _, hb⟩ := hg.it
  clear hg h0
  have hB := hb
  clear hb
  obtain ⟨j1, j2, j3, i1, i2, i3, HW, Js, Ji⟩ := when_fix op a al ah b bl bh yes
  go_wp2_with fail
  have hG : Below y1.heap.size y1 ((y1.alloc (.cells #[.bool a, .int .i64 al, .int .i64 ah] 24)).alloc (.cells #[.bool b, .int .i64 bl, .int .i64 bh] 24)) := by go_grown
  have SA : Sp3 ((y1.alloc (.cells #[.bool a, .int .i64 al, .int .i64 ah] 24)).alloc (.cells #[.bool b, .int .i64 bl, .int .i64 bh] 24)) (y1.heap.size) a al ah := ⟨by go_size, by simp [go_sem], by simp [go_sem], by simp [go_sem], by simp [go_sem], by simp [go_sem], by simp [go_sem]⟩
  have SB : Sp3 ((y1.alloc (.cells #[.bool a, .int .i64 al, .int .i64 ah] 24)).alloc (.cells #[.bool b, .int .i64 bl, .int .i64 bh] 24)) (y1.heap.size + 1) b bl bh := ⟨by go_size, by simp [go_sem], by simp [go_sem], by simp [go_sem], by simp [go_sem], by simp [go_sem], by simp [go_sem]⟩
  replace hB := hB.trans (hG.mono hB.size)
  clear hG
  generalize hgen : ((y1.alloc (.cells #[.bool a, .int .i64 al, .int .i64 ah] 24)).alloc (.cells #[.bool b, .int .i64 bl, .int .i64 bh] 24)) = y2 at SA SB  hB ⊢
  refine (Ji.out _).mono ?_
  rintro e y3 ⟨rfl, hb⟩
  replace SA := SA.later hb
  replace SB := SB.later hb
  replace hB := hB.trans (hb.mono hB.size)
  clear hb
  obtain ⟨nA, c0A, c1A, c2A, f0A, f1A, f2A⟩ := id SA
  obtain ⟨nB, c0B, c1B, c2B, f0B, f1B, f2B⟩ := id SB
  go_wp2_with fail
  clear nA c0A c1A c2A f0A f1A f2A nB c0B c1B c2B f0B f1B f2B
  have hG : Below y3.heap.size y3 ((y3.alloc (.cells #[.bool j1, .int .i64 j2, .int .i64 j3] 24)).alloc (.cells #[.bool i1, .int .i64 i2, .int .i64 i3] 24)) := by go_grown
  replace SA := SA.later hG
  replace SB := SB.later hG
  have SX : Sp3 ((y3.alloc (.cells #[.bool j1, .int .i64 j2, .int .i64 j3] 24)).alloc (.cells #[.bool i1, .int .i64 i2, .int .i64 i3] 24)) (y3.heap.size) j1 j2 j3 := ⟨by go_size, by simp [go_sem], by simp [go_sem], by simp [go_sem], by simp [go_sem], by simp [go_sem], by simp [go_sem]⟩
  have SY : Sp3 ((y3.alloc (.cells #[.bool j1, .int .i64 j2, .int .i64 j3] 24)).alloc (.cells #[.bool i1, .int .i64 i2, .int .i64 i3] 24)) (y3.heap.size + 1) i1 i2 i3 := ⟨by go_size, by simp [go_sem], by simp [go_sem], by simp [go_sem], by simp [go_sem], by simp [go_sem], by simp [go_sem]⟩
  replace hB := hB.trans (hG.mono hB.size)
  clear hG
  generalize hgen : ((y3.alloc (.cells #[.bool j1, .int .i64 j2, .int .i64 j3] 24)).alloc (.cells #[.bool i1, .int .i64 i2, .int .i64 i3] 24)) = y4 at SA SB SX SY  hB ⊢
  refine (Js.out _).mono ?_
  rintro e y5 ⟨rfl, hb⟩
  replace SA := SA.later hb
  replace SB := SB.later hb
  replace SX := SX.later hb
  replace SY := SY.later hb
  replace hB := hB.trans (hb.mono hB.size)
  clear hb
  clear Js Ji
  obtain ⟨nA, c0A, c1A, c2A, f0A, f1A, f2A⟩ := id SA
  obtain ⟨nX, c0X, c1X, c2X, f0X, f1X, f2X⟩ := id SX
  obtain ⟨nY, c0Y, c1Y, c2Y, f0Y, f1Y, f2Y⟩ := id SY
  go_wp2_with fail
  clear nA c0A c1A c2A f0A f1A f2A nX c0X c1X c2X f0X f1X f2X nY c0Y c1Y c2Y f0Y f1Y f2Y
  have hG : Below y5.heap.size y5 ((y5.alloc (.cells #[.bool j1, .int .i64 j2, .int .i64 j3] 24)).alloc (.cells #[.bool i1, .int .i64 i2, .int .i64 i3] 24)) := by go_grown
  replace SA := SA.later hG
  replace SB := SB.later hG
  replace SX := SX.later hG
  replace SY := SY.later hG
  have SWX : Sp3 ((y5.alloc (.cells #[.bool j1, .int .i64 j2, .int .i64 j3] 24)).alloc (.cells #[.bool i1, .int .i64 i2, .int .i64 i3] 24)) (y5.heap.size) j1 j2 j3 := ⟨by go_size, by simp [go_sem], by simp [go_sem], by simp [go_sem], by simp [go_sem], by simp [go_sem], by simp [go_sem]⟩
  have SWY : Sp3 ((y5.alloc (.cells #[.bool j1, .int .i64 j2, .int .i64 j3] 24)).alloc (.cells #[.bool i1, .int .i64 i2, .int .i64 i3] 24)) (y5.heap.size + 1) i1 i2 i3 := ⟨by go_size, by simp [go_sem], by simp [go_sem], by simp [go_sem], by simp [go_sem], by simp [go_sem], by simp [go_sem]⟩
  replace hB := hB.trans (hG.mono hB.size)
  clear hG
  generalize hgen : ((y5.alloc (.cells #[.bool j1, .int .i64 j2, .int .i64 j3] 24)).alloc (.cells #[.bool i1, .int .i64 i2, .int .i64 i3] 24)) = y6 at SA SB SX SY SWX SWY  hB ⊢
  cases ho0 : okF a al ah
  · have HO : Hid (okF a al ah = false) := ho0
    clear ho0
    refine (ok_at HO.out _).mono ?_
    rintro e y7 ⟨rfl, hb⟩
    replace SA := SA.later hb
    replace SB := SB.later hb
    replace SX := SX.later hb
    replace SY := SY.later hb
    replace SWX := SWX.later hb
    replace SWY := SWY.later hb
    replace hB := hB.trans (hb.mono hB.size)
    clear hb
    obtain ⟨nX, c0X, c1X, c2X, f0X, f1X, f2X⟩ := id SX
    obtain ⟨nY, c0Y, c1Y, c2Y, f0Y, f1Y, f2Y⟩ := id SY
    obtain ⟨nWX, c0WX, c1WX, c2WX, f0WX, f1WX, f2WX⟩ := id SWX
    obtain ⟨nWY, c0WY, c1WY, c2WY, f0WY, f1WY, f2WY⟩ := id SWY
    go_wp2_with fail
    go_ret
    exact ⟨rfl, by go_grown⟩
  · have HO0 : Hid (okF a al ah = true) := ho0
    clear ho0
    refine (ok_at HO0.out _).mono ?_
    rintro e y7 ⟨rfl, hb⟩
    replace SA := SA.later hb
    replace SB := SB.later hb
    replace SX := SX.later hb
    replace SY := SY.later hb
    replace SWX := SWX.later hb
    replace SWY := SWY.later hb
    replace hB := hB.trans (hb.mono hB.size)
    clear hb
    obtain ⟨nB, c0B, c1B, c2B, f0B, f1B, f2B⟩ := id SB
    go_wp2_with fail
    clear nB c0B c1B c2B f0B f1B f2B
    cases ho1 : okF b bl bh
    · have HO : Hid (okF b bl bh = false) := ho1
      clear ho1
      refine (ok_at HO.out _).mono ?_
      rintro e y8 ⟨rfl, hb⟩
      replace SA := SA.later hb
      replace SB := SB.later hb
      replace SX := SX.later hb
      replace SY := SY.later hb
      replace SWX := SWX.later hb
      replace SWY := SWY.later hb
      replace hB := hB.trans (hb.mono hB.size)
      clear hb
      obtain ⟨nX, c0X, c1X, c2X, f0X, f1X, f2X⟩ := id SX
      obtain ⟨nY, c0Y, c1Y, c2Y, f0Y, f1Y, f2Y⟩ := id SY
      obtain ⟨nWX, c0WX, c1WX, c2WX, f0WX, f1WX, f2WX⟩ := id SWX
      obtain ⟨nWY, c0WY, c1WY, c2WY, f0WY, f1WY, f2WY⟩ := id SWY
      go_wp2_with fail
      go_ret
      exact ⟨rfl, by go_grown⟩
    · have HO1 : Hid (okF b bl bh = true) := ho1
      clear ho1
      refine (ok_at HO1.out _).mono ?_
      rintro e y8 ⟨rfl, hb⟩
      replace SA := SA.later hb
      replace SB := SB.later hb
      replace SX := SX.later hb
      replace SY := SY.later hb
      replace SWX := SWX.later hb
      replace SWY := SWY.later hb
      replace hB := hB.trans (hb.mono hB.size)
      clear hb
      by_cases hop : op = 5 ∨ op = 6
      · rcases hop with rfl | rfl
        · clear SWX SWY
          have nA : y1.heap.size < y8.heap.size := SA.lt
          have nB : y1.heap.size + 1 < y8.heap.size := SB.lt
          have nX : y3.heap.size < y8.heap.size := SX.lt
          have nY : y3.heap.size + 1 < y8.heap.size := SY.lt
          have hwt : w.heap.size ≤ y8.heap.size := hB.size
          go_wp2_with fail
          have hG : Below y8.heap.size y8 ((y8.alloc (.cells #[.bool false, .int .i64 0, .int .i64 0] 24)).alloc (.cells #[.bool false, .int .i64 0, .int .i64 0] 24)) := by go_grown
          replace SA := SA.later hG
          replace SB := SB.later hG
          replace SX := SX.later hG
          replace SY := SY.later hG
          have SF : Sp3 ((y8.alloc (.cells #[.bool false, .int .i64 0, .int .i64 0] 24)).alloc (.cells #[.bool false, .int .i64 0, .int .i64 0] 24)) (y8.heap.size) false 0 0 := ⟨by go_size, by simp [go_sem], by simp [go_sem], by simp [go_sem], by simp [go_sem], by simp [go_sem], by simp [go_sem]⟩
          have SG : Sp3 ((y8.alloc (.cells #[.bool false, .int .i64 0, .int .i64 0] 24)).alloc (.cells #[.bool false, .int .i64 0, .int .i64 0] 24)) (y8.heap.size + 1) false 0 0 := ⟨by go_size, by simp [go_sem], by simp [go_sem], by simp [go_sem], by simp [go_sem], by simp [go_sem], by simp [go_sem]⟩
          replace hB := hB.trans (hG.mono hB.size)
          clear hG
          generalize hgen : ((y8.alloc (.cells #[.bool false, .int .i64 0, .int .i64 0] 24)).alloc (.cells #[.bool false, .int .i64 0, .int .i64 0] 24)) = y9 at SA SB SX SY SF SG  hB ⊢
          have NF : Hid ((y1.heap.size) ≠ y8.heap.size ∧ (y1.heap.size + 1) ≠ y8.heap.size ∧ (y3.heap.size) ≠ y8.heap.size ∧ (y3.heap.size + 1) ≠ y8.heap.size ∧ (y8.heap.size + 1) ≠ y8.heap.size ∧ w.heap.size ≤ y8.heap.size) := ⟨by omega, by omega, by omega, by omega, by omega, by omega⟩
          have NG : Hid ((y1.heap.size) ≠ y8.heap.size + 1 ∧ (y1.heap.size + 1) ≠ y8.heap.size + 1 ∧ (y3.heap.size) ≠ y8.heap.size + 1 ∧ (y3.heap.size + 1) ≠ y8.heap.size + 1 ∧ (y8.heap.size) ≠ y8.heap.size + 1 ∧ w.heap.size ≤ y8.heap.size + 1) := ⟨by omega, by omega, by omega, by omega, by omega, by omega⟩
          clear nA nB nX nY hwt
          go_loopw [13] (fun s13 x => ∃ (n : Int) (f : Bool) (fl fh : Int) (g : Bool) (gl gh : Int), -16 ≤ n ∧ n ≤ 16 ∧ s13 = .int .i64 n ∧ Hid (Hull (SeenD (fun p q => doF 5 p q = oneF yes) (fun p _ => p) a al ah b bl bh n (-16)) (f, fl, fh)) ∧ Hid (Hull (SeenD (fun p q => doF 5 p q = oneF yes) (fun _ q => q) a al ah b bl bh n (-16)) (g, gl, gh)) ∧ Below w.heap.size w x ∧ Sp3 x (y1.heap.size) a al ah ∧ Sp3 x (y1.heap.size + 1) b bl bh ∧ Sp3 x (y3.heap.size) j1 j2 j3 ∧ Sp3 x (y3.heap.size + 1) i1 i2 i3 ∧ Sp3 x (y8.heap.size) f fl fh ∧ Sp3 x (y8.heap.size + 1) g gl gh) (fun s13 _ => (16 - intOf s13).toNat)
          case atStart => exact ⟨-16, false, 0, 0, false, 0, 0, by omega, by omega, rfl, Hull.empty seenD_zero, Hull.empty seenD_zero, hB, SA, SB, SX, SY, SF, SG⟩
          case round =>
            clear SA SB SX SY SF SG hB
            obtain ⟨n, f, fl, fh, g, gl, gh, n0, n1, rfl, HF, HG, hB, SA, SB, SX, SY, SF, SG⟩ := hrel
            by_cases hlt : n ≤ 15
            · go_wp2_with fail
              go_loopw [14] (fun s14 x => ∃ (m : Int) (f : Bool) (fl fh : Int) (g : Bool) (gl gh : Int), -16 ≤ m ∧ m ≤ 16 ∧ s14 = .int .i64 m ∧ Hid (Hull (SeenD (fun p q => doF 5 p q = oneF yes) (fun p _ => p) a al ah b bl bh n m) (f, fl, fh)) ∧ Hid (Hull (SeenD (fun p q => doF 5 p q = oneF yes) (fun _ q => q) a al ah b bl bh n m) (g, gl, gh)) ∧ Below w.heap.size w x ∧ Sp3 x (y1.heap.size) a al ah ∧ Sp3 x (y1.heap.size + 1) b bl bh ∧ Sp3 x (y3.heap.size) j1 j2 j3 ∧ Sp3 x (y3.heap.size + 1) i1 i2 i3 ∧ Sp3 x (y8.heap.size) f fl fh ∧ Sp3 x (y8.heap.size + 1) g gl gh) (fun s14 _ => (16 - intOf s14).toNat)
              case atStart => exact ⟨-16, f, fl, fh, g, gl, gh, by omega, by omega, rfl, HF.out, HG.out, hB, SA, SB, SX, SY, SF, SG⟩
              case round =>
                clear SA SB SX SY SF SG hB HF HG f fl fh g gl gh
                obtain ⟨m, f, fl, fh, g, gl, gh, m0, m1, rfl, HF, HG, hB, SA, SB, SX, SY, SF, SG⟩ := hrel
                by_cases hmt : m ≤ 15
                · obtain ⟨v, hv⟩ : ∃ v, Hid (doF 5 n m = v) := ⟨_, rfl⟩
                  have gv := when_give (show (5 : Int) = 5 ∨ (5 : Int) = 6 from .inl rfl) (p := n) (q := m) (by omega) (by omega)
                  have hv01 : v = 0 ∨ v = 1 := by have := raw_01 (p := n) (q := m) (show (5 : Int) = 5 ∨ (5 : Int) = 6 from .inl rfl); rw [← gv.1, hv.out] at this; exact this
                  have K3 : Hid (doOk 5 n m = true) := gv.2
                  have HV : Hid (v = 0 ∨ v = 1) := hv01
                  clear gv hv01
                  go_wp2_with fail
                  refine (num_at hv.out K3.out _).mono ?_
                  rintro e y10 ⟨rfl, hb⟩
                  replace SA := SA.later hb
                  replace SB := SB.later hb
                  replace SX := SX.later hb
                  replace SY := SY.later hb
                  replace SF := SF.later hb
                  replace SG := SG.later hb
                  replace hB := hB.trans (hb.mono hB.size)
                  clear hb
                  cases hh1 : hasF a al ah n
                  · have K1 : Hid (hasF a al ah n = false) := hh1
                    clear hh1
                    obtain ⟨nA, c0A, c1A, c2A, f0A, f1A, f2A⟩ := id SA
                    go_wp2_with fail
                    clear nA c0A c1A c2A f0A f1A f2A
                    refine (has_at K1.out _).mono ?_
                    rintro e y11 ⟨rfl, hb⟩
                    replace SA := SA.later hb
                    replace SB := SB.later hb
                    replace SX := SX.later hb
                    replace SY := SY.later hb
                    replace SF := SF.later hb
                    replace SG := SG.later hb
                    replace hB := hB.trans (hb.mono hB.size)
                    clear hb
                    have hno : ¬ (hasF a al ah n = true ∧ hasF b bl bh m = true ∧ doF 5 n m = oneF yes) := by rw [K1.out]; simp
                    have HNO : Hid (¬ (hasF a al ah n = true ∧ hasF b bl bh m = true ∧ doF 5 n m = oneF yes)) := hno
                    clear hno
                    have HN1 : Hid (Hull (SeenD (fun p q => doF 5 p q = oneF yes) (fun p _ => p) a al ah b bl bh n (m + 1)) (f, fl, fh)) := HF.out.congr (seenD_no HNO.out)
                    have HN2 : Hid (Hull (SeenD (fun p q => doF 5 p q = oneF yes) (fun _ q => q) a al ah b bl bh n (m + 1)) (g, gl, gh)) := HG.out.congr (seenD_no HNO.out)
                    go_wp2_with fail
                    go_roundw
                    case rel => exact ⟨m + 1, f, fl, fh, g, gl, gh, by omega, by omega, by go_num, HN1.out, HN2.out, hB, SA, SB, SX, SY, SF, SG⟩
                    case measure => simp [intOf]; omega
                  · have K1 : Hid (hasF a al ah n = true) := hh1
                    clear hh1
                    obtain ⟨nA, c0A, c1A, c2A, f0A, f1A, f2A⟩ := id SA
                    go_wp2_with fail
                    clear nA c0A c1A c2A f0A f1A f2A
                    refine (has_at K1.out _).mono ?_
                    rintro e y11 ⟨rfl, hb⟩
                    replace SA := SA.later hb
                    replace SB := SB.later hb
                    replace SX := SX.later hb
                    replace SY := SY.later hb
                    replace SF := SF.later hb
                    replace SG := SG.later hb
                    replace hB := hB.trans (hb.mono hB.size)
                    clear hb
                    cases hh2 : hasF b bl bh m
                    · have K2 : Hid (hasF b bl bh m = false) := hh2
                      clear hh2
                      obtain ⟨nB, c0B, c1B, c2B, f0B, f1B, f2B⟩ := id SB
                      go_wp2_with fail
                      clear nB c0B c1B c2B f0B f1B f2B
                      refine (has_at K2.out _).mono ?_
                      rintro e y12 ⟨rfl, hb⟩
                      replace SA := SA.later hb
                      replace SB := SB.later hb
                      replace SX := SX.later hb
                      replace SY := SY.later hb
                      replace SF := SF.later hb
                      replace SG := SG.later hb
                      replace hB := hB.trans (hb.mono hB.size)
                      clear hb
                      have hno : ¬ (hasF a al ah n = true ∧ hasF b bl bh m = true ∧ doF 5 n m = oneF yes) := by rw [K2.out]; simp
                      have HNO : Hid (¬ (hasF a al ah n = true ∧ hasF b bl bh m = true ∧ doF 5 n m = oneF yes)) := hno
                      clear hno
                      have HN1 : Hid (Hull (SeenD (fun p q => doF 5 p q = oneF yes) (fun p _ => p) a al ah b bl bh n (m + 1)) (f, fl, fh)) := HF.out.congr (seenD_no HNO.out)
                      have HN2 : Hid (Hull (SeenD (fun p q => doF 5 p q = oneF yes) (fun _ q => q) a al ah b bl bh n (m + 1)) (g, gl, gh)) := HG.out.congr (seenD_no HNO.out)
                      go_wp2_with fail
                      go_roundw
                      case rel => exact ⟨m + 1, f, fl, fh, g, gl, gh, by omega, by omega, by go_num, HN1.out, HN2.out, hB, SA, SB, SX, SY, SF, SG⟩
                      case measure => simp [intOf]; omega
                    · have K2 : Hid (hasF b bl bh m = true) := hh2
                      clear hh2
                      obtain ⟨nB, c0B, c1B, c2B, f0B, f1B, f2B⟩ := id SB
                      go_wp2_with fail
                      clear nB c0B c1B c2B f0B f1B f2B
                      refine (has_at K2.out _).mono ?_
                      rintro e y12 ⟨rfl, hb⟩
                      replace SA := SA.later hb
                      replace SB := SB.later hb
                      replace SX := SX.later hb
                      replace SY := SY.later hb
                      replace SF := SF.later hb
                      replace SG := SG.later hb
                      replace hB := hB.trans (hb.mono hB.size)
                      clear hb
                      rcases HV.out with hv0 | hv0
                      · subst hv0
                        cases yes
                        · have k4 : doF 5 n m = oneF false := by rw [hv.out]; rfl
                          have K4 : Hid (doF 5 n m = oneF false) := k4
                          clear k4
                          have hnw0 : isW n = true := by simp [isW]; omega
                          have hmw0 : isW m = true := by simp [isW]; omega
                          have hnw : Hid (isW n = true) := hnw0
                          have hmw : Hid (isW m = true) := hmw0
                          clear hnw0 hmw0
                          obtain ⟨f1, f2, f3, hJ1⟩ : ∃ f1 f2 f3, Hid (joinF f fl fh true n n = (f1, f2, f3)) := ⟨_, _, _, rfl⟩
                          obtain ⟨g1, g2, g3, hJ2⟩ : ∃ g1 g2 g3, Hid (joinF g gl gh true m m = (g1, g2, g3)) := ⟨_, _, _, rfl⟩
                          have HN1 : Hid (Hull (SeenD (fun p q => doF 5 p q = oneF false) (fun p _ => p) a al ah b bl bh n (m + 1)) (f1, f2, f3)) := by
                            have k := join_add (hull_okF HF.out (fun r hr => by obtain ⟨p, q, h1, h2, _, _, rfl⟩ := hr; exact has_bd h1)) hnw.out
                            have k2 : Hull (SeenD (fun p q => doF 5 p q = oneF false) (fun p _ => p) a al ah b bl bh n (m + 1)) (addS (f, fl, fh) n) := (HF.out.add n).congr (fun r => seenD_yes K1.out K2.out K4.out r)
                            rw [← k, hJ1.out] at k2; exact k2
                          have HN2 : Hid (Hull (SeenD (fun p q => doF 5 p q = oneF false) (fun _ q => q) a al ah b bl bh n (m + 1)) (g1, g2, g3)) := by
                            have k := join_add (hull_okF HG.out (fun r hr => by obtain ⟨p, q, h1, h2, _, _, rfl⟩ := hr; exact has_bd h2)) hmw.out
                            have k2 : Hull (SeenD (fun p q => doF 5 p q = oneF false) (fun _ q => q) a al ah b bl bh n (m + 1)) (addS (g, gl, gh) m) := (HG.out.add m).congr (fun r => seenD_yes K1.out K2.out K4.out r)
                            rw [← k, hJ2.out] at k2; exact k2
                          go_wp2_with fail
                          have hBo := hB
                          refine wp_region_inv (by kernel_rfl) (by kernel_rfl) (UI (fun s0 s1 s2 s3 => ⟨#[Value.slice a0 len0 cap0, undef, Value.bool false, Value.int IntKind.i64 5, Value.pointer (some { block := y1.heap.size, off := 0 }), Value.pointer (some { block := y1.heap.size + 1, off := 0 }), Value.bool false, Value.pointer (some { block := y3.heap.size, off := 0 }), Value.pointer (some { block := y3.heap.size + 1, off := 0 }), Value.pointer (some { block := y5.heap.size, off := 0 }), Value.pointer (some { block := y5.heap.size + 1, off := 0 }), Value.pointer (some { block := y8.heap.size, off := 0 }), Value.pointer (some { block := y8.heap.size + 1, off := 0 }), Value.int IntKind.i64 n, Value.int IntKind.i64 m, Value.int IntKind.i64 0, Value.bool true, Value.slice a0 len0 cap0, Value.int IntKind.i64 ↑len0, Value.bool false, Value.tuple #[Value.int IntKind.i64 5, Value.agg #[Value.bool a, Value.int IntKind.i64 al, Value.int IntKind.i64 ah], Value.agg #[Value.bool b, Value.int IntKind.i64 bl, Value.int IntKind.i64 bh], Value.bool false], Value.slice a0 len0 cap0, Value.tuple #[Value.int IntKind.i64 5, Value.agg #[Value.bool a, Value.int IntKind.i64 al, Value.int IntKind.i64 ah], Value.agg #[Value.bool b, Value.int IntKind.i64 bl, Value.int IntKind.i64 bh], Value.bool false], Value.int IntKind.i64 5, Value.agg #[Value.bool a, Value.int IntKind.i64 al, Value.int IntKind.i64 ah], Value.agg #[Value.bool b, Value.int IntKind.i64 bl, Value.int IntKind.i64 bh], Value.bool false, Value.tuple #[Value.agg #[Value.bool j1, Value.int IntKind.i64 j2, Value.int IntKind.i64 j3], Value.agg #[Value.bool i1, Value.int IntKind.i64 i2, Value.int IntKind.i64 i3]], Value.int IntKind.i64 5, Value.agg #[Value.bool a, Value.int IntKind.i64 al, Value.int IntKind.i64 ah], Value.agg #[Value.bool b, Value.int IntKind.i64 bl, Value.int IntKind.i64 bh], Value.bool false, Value.tuple #[Value.agg #[Value.bool j1, Value.int IntKind.i64 j2, Value.int IntKind.i64 j3], Value.agg #[Value.bool i1, Value.int IntKind.i64 i2, Value.int IntKind.i64 i3]], Value.agg #[Value.bool j1, Value.int IntKind.i64 j2, Value.int IntKind.i64 j3], Value.agg #[Value.bool i1, Value.int IntKind.i64 i2, Value.int IntKind.i64 i3], Value.tuple #[Value.agg #[Value.bool j1, Value.int IntKind.i64 j2, Value.int IntKind.i64 j3], Value.agg #[Value.bool i1, Value.int IntKind.i64 i2, Value.int IntKind.i64 i3]], Value.int IntKind.i64 5, Value.agg #[Value.bool a, Value.int IntKind.i64 al, Value.int IntKind.i64 ah], Value.agg #[Value.bool b, Value.int IntKind.i64 bl, Value.int IntKind.i64 bh], Value.bool false, Value.tuple #[Value.agg #[Value.bool j1, Value.int IntKind.i64 j2, Value.int IntKind.i64 j3], Value.agg #[Value.bool i1, Value.int IntKind.i64 i2, Value.int IntKind.i64 i3]], Value.agg #[Value.bool j1, Value.int IntKind.i64 j2, Value.int IntKind.i64 j3], Value.agg #[Value.bool i1, Value.int IntKind.i64 i2, Value.int IntKind.i64 i3], Value.agg #[Value.bool j1, Value.int IntKind.i64 j2, Value.int IntKind.i64 j3], Value.agg #[Value.bool j1, Value.int IntKind.i64 j2, Value.int IntKind.i64 j3], Value.bool false, Value.bool false, Value.agg #[Value.bool i1, Value.int IntKind.i64 i2, Value.int IntKind.i64 i3], Value.agg #[Value.bool i1, Value.int IntKind.i64 i2, Value.int IntKind.i64 i3], Value.bool false, Value.bool false, Value.bool false, Value.agg #[Value.bool a, Value.int IntKind.i64 al, Value.int IntKind.i64 ah], Value.bool true, Value.bool false, Value.bool false, Value.bool false, Value.agg #[Value.bool b, Value.int IntKind.i64 bl, Value.int IntKind.i64 bh], Value.bool true, Value.bool false, Value.bool false, Value.bool false, Value.int IntKind.i64 5, Value.bool false, Value.bool false, undef, undef, Value.bool false, Value.bool false, undef, undef, undef, undef, undef, undef, undef, undef, Value.agg #[Value.bool false, Value.int IntKind.i64 0, Value.int IntKind.i64 0], Value.agg #[Value.bool false, Value.int IntKind.i64 0, Value.int IntKind.i64 0], Value.int IntKind.i64 n, Value.bool true, u81, u82, Value.int IntKind.i64 m, Value.bool true, u85, u86, Value.tuple #[Value.int IntKind.i64 0, Value.bool true], Value.int IntKind.i64 5, Value.int IntKind.i64 n, Value.int IntKind.i64 m, Value.tuple #[Value.int IntKind.i64 0, Value.bool true], Value.int IntKind.i64 0, Value.bool true, Value.agg #[Value.bool a, Value.int IntKind.i64 al, Value.int IntKind.i64 ah], Value.int IntKind.i64 n, Value.bool true, Value.bool true, Value.agg #[Value.bool b, Value.int IntKind.i64 bl, Value.int IntKind.i64 bh], Value.int IntKind.i64 m, Value.bool true, Value.bool true, Value.bool true, Value.int IntKind.i64 0, Value.bool false, Value.bool false, Value.bool true, Value.bool true, s0, s1, s2, s3, u112, u113, u114, u115, undef, undef, undef, undef, undef, undef, undef, undef], []⟩) y12 (.agg #[.bool f, .int .i64 fl, .int .i64 fh]) (.int .i64 n) (.agg #[.bool true, .int .i64 n, .int .i64 n]) (.agg #[.bool f1, .int .i64 f2, .int .i64 f3]) (SetSp y12 (y8.heap.size) f1 f2 f3)) ?start ?step ?fin
                          case start => exact ⟨false, false, false, false, false, _, _, _, _, rfl, rfl, fun _ => Below.drew (Below.refl _ _), (fun h => by cases h), (fun h => by cases h), Sl.no, Sl.no, Sl.no, Sl.no⟩
                          case step =>
                            intro listed a x hI i o ho hun hpre
                            obtain ⟨b0, b1, b2, b3, b4, s0, s1, s2, s3, rfl, rfl, hB0, hD, h4, h0, h1, h2, h3⟩ := hI
                            rcases i with _ | i
                            · obtain rfl := Option.some.inj ho
                              have e : b0 = false := hun
                              subst e
                              obtain rfl : b4 = false := by
                                cases b4
                                · rfl
                                · have := h4 rfl; simp at this
                              have hBx := hB0 rfl
                              clear hB0 hD h4 hun
                              refine wpOp_of ho rfl fun K hK => ?_
                              clear ho hpre
                              obtain ⟨n, c0, c1, c2, f0, f1, f2⟩ := SF.later hBx
                              go_simp
                              exact hK _ _ ⟨true, b1, b2, b3, false, _, s1, s2, s3, rfl, rfl, fun _ => hBx, (fun h => by cases h), (fun h => by cases h), Sl.mk rfl, h1, h2, h3⟩
                            rcases i with _ | i
                            · obtain rfl := Option.some.inj ho
                              have e : b1 = false := hun
                              subst e
                              obtain rfl : b4 = false := by
                                cases b4
                                · rfl
                                · have := h4 rfl; simp at this
                              have hBx := hB0 rfl
                              clear hB0 hD h4 hun
                              refine wpOp_of ho rfl fun K hK => ?_
                              clear ho hpre
                              go_simp
                              exact hK _ _ ⟨b0, true, b2, b3, false, s0, _, s2, s3, rfl, rfl, fun _ => hBx, (fun h => by cases h), (fun h => by cases h), h0, Sl.mk rfl, h2, h3⟩
                            rcases i with _ | i
                            · obtain rfl := Option.some.inj ho
                              have e : b2 = false := hun
                              subst e
                              obtain rfl : b4 = false := by
                                cases b4
                                · rfl
                                · have := h4 rfl; simp at this
                              have hBx := hB0 rfl
                              clear hB0 hD h4 hun
                              have q1 : b1 = true := hpre ⟨1, .data⟩ (by simp) rfl
                              have e1 : s1 = .int .i64 n := h1.at_ q1
                              subst e1
                              refine wpOp_of ho rfl fun K hK => ?_
                              clear ho hpre
                              go_simp
                              refine (ofw_at hnw.out _).mono ?_
                              rintro e w' ⟨rfl, hbx⟩
                              exact hK _ _ ⟨b0, b1, true, b3, false, s0, _, _, s3, rfl, rfl, fun _ => hBx.trans (hbx.mono hBx.size), (fun h => by cases h), (fun h => by cases h), h0, h1, Sl.mk rfl, h3⟩
                            rcases i with _ | i
                            · obtain rfl := Option.some.inj ho
                              have e : b3 = false := hun
                              subst e
                              obtain rfl : b4 = false := by
                                cases b4
                                · rfl
                                · have := h4 rfl; simp at this
                              have hBx := hB0 rfl
                              clear hB0 hD h4 hun
                              have q0 : b0 = true := hpre ⟨0, .data⟩ (by simp) rfl
                              have e0 : s0 = .agg #[.bool f, .int .i64 fl, .int .i64 fh] := h0.at_ q0
                              subst e0
                              have q2 : b2 = true := hpre ⟨2, .data⟩ (by simp) rfl
                              have e2 : s2 = .agg #[.bool true, .int .i64 n, .int .i64 n] := h2.at_ q2
                              subst e2
                              refine wpOp_of ho rfl fun K hK => ?_
                              clear ho hpre
                              go_simp
                              refine (join_at hJ1.out _).mono ?_
                              rintro e w' ⟨rfl, hbx⟩
                              exact hK _ _ ⟨b0, b1, b2, true, false, _, s1, _, _, rfl, rfl, fun _ => hBx.trans (hbx.mono hBx.size), (fun h => by cases h), (fun h => by cases h), h0, h1, h2, Sl.mk rfl⟩
                            rcases i with _ | i
                            · obtain rfl := Option.some.inj ho
                              have e : b4 = false := hun
                              subst e
                              have hBx := hB0 rfl
                              clear hB0 hD h4 hun
                              have q0 : b0 = true := hpre ⟨0, .phase⟩ (by simp) rfl
                              have q1 : b1 = true := hpre ⟨1, .phase⟩ (by simp) rfl
                              have q2 : b2 = true := hpre ⟨2, .phase⟩ (by simp) rfl
                              have q3 : b3 = true := hpre ⟨3, .data⟩ (by simp) rfl
                              have e3 : s3 = .agg #[.bool f1, .int .i64 f2, .int .i64 f3] := h3.at_ q3
                              subst e3
                              refine wpOp_of ho rfl fun K hK => ?_
                              clear ho hpre
                              obtain ⟨n, c0, c1, c2, f0, f1, f2⟩ := SF.later hBx
                              go_simp
                              exact hK _ _ ⟨b0, b1, b2, b3, true, s0, s1, s2, _, rfl, rfl, (fun h => by cases h), fun _ => ⟨_, hBx, rfl⟩, fun _ => ⟨q0, q1, q2, q3⟩, h0, h1, h2, Sl.mk rfl⟩
                            cases ho
                          case fin =>
                            intro listed a x hI hall
                            obtain ⟨b0, b1, b2, b3, b4, s0, s1, s2, s3, rfl, rfl, _, hD, _, _, _, _, _⟩ := hI
                            have hSet := hD (hall 4 (by simp))
                            clear hD hall
                            have SA := hSet.off SA NF.out.1
                            have SB := hSet.off SB NF.out.2.1
                            have SX := hSet.off SX NF.out.2.2.1
                            have SY := hSet.off SY NF.out.2.2.2.1
                            have SG := hSet.off SG NF.out.2.2.2.2.1
                            have SF := hSet.at_ SF
                            have hBo := hSet.below hBo NF.out.2.2.2.2.2
                            clear hSet
                            obtain ⟨z1, hz1⟩ : ∃ z, z = x := ⟨_, rfl⟩
                            subst hz1
                            go_wp2_with fail
                            refine wp_region_inv (by kernel_rfl) (by kernel_rfl) (UI (fun r0 r1 r2 r3 => ⟨#[Value.slice a0 len0 cap0, undef, Value.bool false, Value.int IntKind.i64 5, Value.pointer (some { block := y1.heap.size, off := 0 }), Value.pointer (some { block := y1.heap.size + 1, off := 0 }), Value.bool false, Value.pointer (some { block := y3.heap.size, off := 0 }), Value.pointer (some { block := y3.heap.size + 1, off := 0 }), Value.pointer (some { block := y5.heap.size, off := 0 }), Value.pointer (some { block := y5.heap.size + 1, off := 0 }), Value.pointer (some { block := y8.heap.size, off := 0 }), Value.pointer (some { block := y8.heap.size + 1, off := 0 }), Value.int IntKind.i64 n, Value.int IntKind.i64 m, Value.int IntKind.i64 0, Value.bool true, Value.slice a0 len0 cap0, Value.int IntKind.i64 ↑len0, Value.bool false, Value.tuple #[Value.int IntKind.i64 5, Value.agg #[Value.bool a, Value.int IntKind.i64 al, Value.int IntKind.i64 ah], Value.agg #[Value.bool b, Value.int IntKind.i64 bl, Value.int IntKind.i64 bh], Value.bool false], Value.slice a0 len0 cap0, Value.tuple #[Value.int IntKind.i64 5, Value.agg #[Value.bool a, Value.int IntKind.i64 al, Value.int IntKind.i64 ah], Value.agg #[Value.bool b, Value.int IntKind.i64 bl, Value.int IntKind.i64 bh], Value.bool false], Value.int IntKind.i64 5, Value.agg #[Value.bool a, Value.int IntKind.i64 al, Value.int IntKind.i64 ah], Value.agg #[Value.bool b, Value.int IntKind.i64 bl, Value.int IntKind.i64 bh], Value.bool false, Value.tuple #[Value.agg #[Value.bool j1, Value.int IntKind.i64 j2, Value.int IntKind.i64 j3], Value.agg #[Value.bool i1, Value.int IntKind.i64 i2, Value.int IntKind.i64 i3]], Value.int IntKind.i64 5, Value.agg #[Value.bool a, Value.int IntKind.i64 al, Value.int IntKind.i64 ah], Value.agg #[Value.bool b, Value.int IntKind.i64 bl, Value.int IntKind.i64 bh], Value.bool false, Value.tuple #[Value.agg #[Value.bool j1, Value.int IntKind.i64 j2, Value.int IntKind.i64 j3], Value.agg #[Value.bool i1, Value.int IntKind.i64 i2, Value.int IntKind.i64 i3]], Value.agg #[Value.bool j1, Value.int IntKind.i64 j2, Value.int IntKind.i64 j3], Value.agg #[Value.bool i1, Value.int IntKind.i64 i2, Value.int IntKind.i64 i3], Value.tuple #[Value.agg #[Value.bool j1, Value.int IntKind.i64 j2, Value.int IntKind.i64 j3], Value.agg #[Value.bool i1, Value.int IntKind.i64 i2, Value.int IntKind.i64 i3]], Value.int IntKind.i64 5, Value.agg #[Value.bool a, Value.int IntKind.i64 al, Value.int IntKind.i64 ah], Value.agg #[Value.bool b, Value.int IntKind.i64 bl, Value.int IntKind.i64 bh], Value.bool false, Value.tuple #[Value.agg #[Value.bool j1, Value.int IntKind.i64 j2, Value.int IntKind.i64 j3], Value.agg #[Value.bool i1, Value.int IntKind.i64 i2, Value.int IntKind.i64 i3]], Value.agg #[Value.bool j1, Value.int IntKind.i64 j2, Value.int IntKind.i64 j3], Value.agg #[Value.bool i1, Value.int IntKind.i64 i2, Value.int IntKind.i64 i3], Value.agg #[Value.bool j1, Value.int IntKind.i64 j2, Value.int IntKind.i64 j3], Value.agg #[Value.bool j1, Value.int IntKind.i64 j2, Value.int IntKind.i64 j3], Value.bool false, Value.bool false, Value.agg #[Value.bool i1, Value.int IntKind.i64 i2, Value.int IntKind.i64 i3], Value.agg #[Value.bool i1, Value.int IntKind.i64 i2, Value.int IntKind.i64 i3], Value.bool false, Value.bool false, Value.bool false, Value.agg #[Value.bool a, Value.int IntKind.i64 al, Value.int IntKind.i64 ah], Value.bool true, Value.bool false, Value.bool false, Value.bool false, Value.agg #[Value.bool b, Value.int IntKind.i64 bl, Value.int IntKind.i64 bh], Value.bool true, Value.bool false, Value.bool false, Value.bool false, Value.int IntKind.i64 5, Value.bool false, Value.bool false, undef, undef, Value.bool false, Value.bool false, undef, undef, undef, undef, undef, undef, undef, undef, Value.agg #[Value.bool false, Value.int IntKind.i64 0, Value.int IntKind.i64 0], Value.agg #[Value.bool false, Value.int IntKind.i64 0, Value.int IntKind.i64 0], Value.int IntKind.i64 n, Value.bool true, u81, u82, Value.int IntKind.i64 m, Value.bool true, u85, u86, Value.tuple #[Value.int IntKind.i64 0, Value.bool true], Value.int IntKind.i64 5, Value.int IntKind.i64 n, Value.int IntKind.i64 m, Value.tuple #[Value.int IntKind.i64 0, Value.bool true], Value.int IntKind.i64 0, Value.bool true, Value.agg #[Value.bool a, Value.int IntKind.i64 al, Value.int IntKind.i64 ah], Value.int IntKind.i64 n, Value.bool true, Value.bool true, Value.agg #[Value.bool b, Value.int IntKind.i64 bl, Value.int IntKind.i64 bh], Value.int IntKind.i64 m, Value.bool true, Value.bool true, Value.bool true, Value.int IntKind.i64 0, Value.bool false, Value.bool false, Value.bool true, Value.bool true, s0, s1, s2, s3, r0, r1, r2, r3, undef, undef, undef, undef, undef, undef, undef, undef], []⟩) z1 (.agg #[.bool g, .int .i64 gl, .int .i64 gh]) (.int .i64 m) (.agg #[.bool true, .int .i64 m, .int .i64 m]) (.agg #[.bool g1, .int .i64 g2, .int .i64 g3]) (SetSp z1 (y8.heap.size + 1) g1 g2 g3)) ?start ?step ?fin
                            case start => exact ⟨false, false, false, false, false, _, _, _, _, rfl, rfl, fun _ => Below.drew (Below.refl _ _), (fun h => by cases h), (fun h => by cases h), Sl.no, Sl.no, Sl.no, Sl.no⟩
                            case step =>
                              intro listed a x hI i o ho hun hpre
                              obtain ⟨b0, b1, b2, b3, b4, s0, s1, s2, s3, rfl, rfl, hB0, hD, h4, h0, h1, h2, h3⟩ := hI
                              rcases i with _ | i
                              · obtain rfl := Option.some.inj ho
                                have e : b0 = false := hun
                                subst e
                                obtain rfl : b4 = false := by
                                  cases b4
                                  · rfl
                                  · have := h4 rfl; simp at this
                                have hBx := hB0 rfl
                                clear hB0 hD h4 hun
                                refine wpOp_of ho rfl fun K hK => ?_
                                clear ho hpre
                                obtain ⟨n, c0, c1, c2, f0, f1, f2⟩ := SG.later hBx
                                go_simp
                                exact hK _ _ ⟨true, b1, b2, b3, false, _, s1, s2, s3, rfl, rfl, fun _ => hBx, (fun h => by cases h), (fun h => by cases h), Sl.mk rfl, h1, h2, h3⟩
                              rcases i with _ | i
                              · obtain rfl := Option.some.inj ho
                                have e : b1 = false := hun
                                subst e
                                obtain rfl : b4 = false := by
                                  cases b4
                                  · rfl
                                  · have := h4 rfl; simp at this
                                have hBx := hB0 rfl
                                clear hB0 hD h4 hun
                                refine wpOp_of ho rfl fun K hK => ?_
                                clear ho hpre
                                go_simp
                                exact hK _ _ ⟨b0, true, b2, b3, false, s0, _, s2, s3, rfl, rfl, fun _ => hBx, (fun h => by cases h), (fun h => by cases h), h0, Sl.mk rfl, h2, h3⟩
                              rcases i with _ | i
                              · obtain rfl := Option.some.inj ho
                                have e : b2 = false := hun
                                subst e
                                obtain rfl : b4 = false := by
                                  cases b4
                                  · rfl
                                  · have := h4 rfl; simp at this
                                have hBx := hB0 rfl
                                clear hB0 hD h4 hun
                                have q1 : b1 = true := hpre ⟨1, .data⟩ (by simp) rfl
                                have e1 : s1 = .int .i64 m := h1.at_ q1
                                subst e1
                                refine wpOp_of ho rfl fun K hK => ?_
                                clear ho hpre
                                go_simp
                                refine (ofw_at hmw.out _).mono ?_
                                rintro e w' ⟨rfl, hbx⟩
                                exact hK _ _ ⟨b0, b1, true, b3, false, s0, _, _, s3, rfl, rfl, fun _ => hBx.trans (hbx.mono hBx.size), (fun h => by cases h), (fun h => by cases h), h0, h1, Sl.mk rfl, h3⟩
                              rcases i with _ | i
                              · obtain rfl := Option.some.inj ho
                                have e : b3 = false := hun
                                subst e
                                obtain rfl : b4 = false := by
                                  cases b4
                                  · rfl
                                  · have := h4 rfl; simp at this
                                have hBx := hB0 rfl
                                clear hB0 hD h4 hun
                                have q0 : b0 = true := hpre ⟨0, .data⟩ (by simp) rfl
                                have e0 : s0 = .agg #[.bool g, .int .i64 gl, .int .i64 gh] := h0.at_ q0
                                subst e0
                                have q2 : b2 = true := hpre ⟨2, .data⟩ (by simp) rfl
                                have e2 : s2 = .agg #[.bool true, .int .i64 m, .int .i64 m] := h2.at_ q2
                                subst e2
                                refine wpOp_of ho rfl fun K hK => ?_
                                clear ho hpre
                                go_simp
                                refine (join_at hJ2.out _).mono ?_
                                rintro e w' ⟨rfl, hbx⟩
                                exact hK _ _ ⟨b0, b1, b2, true, false, _, s1, _, _, rfl, rfl, fun _ => hBx.trans (hbx.mono hBx.size), (fun h => by cases h), (fun h => by cases h), h0, h1, h2, Sl.mk rfl⟩
                              rcases i with _ | i
                              · obtain rfl := Option.some.inj ho
                                have e : b4 = false := hun
                                subst e
                                have hBx := hB0 rfl
                                clear hB0 hD h4 hun
                                have q0 : b0 = true := hpre ⟨0, .phase⟩ (by simp) rfl
                                have q1 : b1 = true := hpre ⟨1, .phase⟩ (by simp) rfl
                                have q2 : b2 = true := hpre ⟨2, .phase⟩ (by simp) rfl
                                have q3 : b3 = true := hpre ⟨3, .data⟩ (by simp) rfl
                                have e3 : s3 = .agg #[.bool g1, .int .i64 g2, .int .i64 g3] := h3.at_ q3
                                subst e3
                                refine wpOp_of ho rfl fun K hK => ?_
                                clear ho hpre
                                obtain ⟨n, c0, c1, c2, f0, f1, f2⟩ := SG.later hBx
                                go_simp
                                exact hK _ _ ⟨b0, b1, b2, b3, true, s0, s1, s2, _, rfl, rfl, (fun h => by cases h), fun _ => ⟨_, hBx, rfl⟩, fun _ => ⟨q0, q1, q2, q3⟩, h0, h1, h2, Sl.mk rfl⟩
                              cases ho
                            case fin =>
                              intro listed a x hI hall
                              obtain ⟨b0, b1, b2, b3, b4, s0, s1, s2, s3, rfl, rfl, _, hD, _, _, _, _, _⟩ := hI
                              have hSet := hD (hall 4 (by simp))
                              clear hD hall
                              have SA := hSet.off SA NG.out.1
                              have SB := hSet.off SB NG.out.2.1
                              have SX := hSet.off SX NG.out.2.2.1
                              have SY := hSet.off SY NG.out.2.2.2.1
                              have SF := hSet.off SF NG.out.2.2.2.2.1
                              have SG := hSet.at_ SG
                              have hB := hSet.below hBo NG.out.2.2.2.2.2
                              clear hSet
                              go_wp2_with fail
                              go_roundw
                              case rel => exact ⟨m + 1, f1, f2, f3, g1, g2, g3, by omega, by omega, by go_num, HN1.out, HN2.out, hB, SA, SB, SX, SY, SF, SG⟩
                              case measure => simp [intOf]; omega
                        · have hno : ¬ (hasF a al ah n = true ∧ hasF b bl bh m = true ∧ doF 5 n m = oneF true) := by rw [hv.out]; simp [oneF]
                          have HNO : Hid (¬ (hasF a al ah n = true ∧ hasF b bl bh m = true ∧ doF 5 n m = oneF true)) := hno
                          clear hno
                          have HN1 : Hid (Hull (SeenD (fun p q => doF 5 p q = oneF true) (fun p _ => p) a al ah b bl bh n (m + 1)) (f, fl, fh)) := HF.out.congr (seenD_no HNO.out)
                          have HN2 : Hid (Hull (SeenD (fun p q => doF 5 p q = oneF true) (fun _ q => q) a al ah b bl bh n (m + 1)) (g, gl, gh)) := HG.out.congr (seenD_no HNO.out)
                          go_wp2_with fail
                          go_roundw
                          case rel => exact ⟨m + 1, f, fl, fh, g, gl, gh, by omega, by omega, by go_num, HN1.out, HN2.out, hB, SA, SB, SX, SY, SF, SG⟩
                          case measure => simp [intOf]; omega
                      · subst hv0
                        cases yes
                        · have hno : ¬ (hasF a al ah n = true ∧ hasF b bl bh m = true ∧ doF 5 n m = oneF false) := by rw [hv.out]; simp [oneF]
                          have HNO : Hid (¬ (hasF a al ah n = true ∧ hasF b bl bh m = true ∧ doF 5 n m = oneF false)) := hno
                          clear hno
                          have HN1 : Hid (Hull (SeenD (fun p q => doF 5 p q = oneF false) (fun p _ => p) a al ah b bl bh n (m + 1)) (f, fl, fh)) := HF.out.congr (seenD_no HNO.out)
                          have HN2 : Hid (Hull (SeenD (fun p q => doF 5 p q = oneF false) (fun _ q => q) a al ah b bl bh n (m + 1)) (g, gl, gh)) := HG.out.congr (seenD_no HNO.out)
                          go_wp2_with fail
                          go_roundw
                          case rel => exact ⟨m + 1, f, fl, fh, g, gl, gh, by omega, by omega, by go_num, HN1.out, HN2.out, hB, SA, SB, SX, SY, SF, SG⟩
                          case measure => simp [intOf]; omega
                        · have k4 : doF 5 n m = oneF true := by rw [hv.out]; rfl
                          have K4 : Hid (doF 5 n m = oneF true) := k4
                          clear k4
                          have hnw0 : isW n = true := by simp [isW]; omega
                          have hmw0 : isW m = true := by simp [isW]; omega
                          have hnw : Hid (isW n = true) := hnw0
                          have hmw : Hid (isW m = true) := hmw0
                          clear hnw0 hmw0
                          obtain ⟨f1, f2, f3, hJ1⟩ : ∃ f1 f2 f3, Hid (joinF f fl fh true n n = (f1, f2, f3)) := ⟨_, _, _, rfl⟩
                          obtain ⟨g1, g2, g3, hJ2⟩ : ∃ g1 g2 g3, Hid (joinF g gl gh true m m = (g1, g2, g3)) := ⟨_, _, _, rfl⟩
                          have HN1 : Hid (Hull (SeenD (fun p q => doF 5 p q = oneF true) (fun p _ => p) a al ah b bl bh n (m + 1)) (f1, f2, f3)) := by
                            have k := join_add (hull_okF HF.out (fun r hr => by obtain ⟨p, q, h1, h2, _, _, rfl⟩ := hr; exact has_bd h1)) hnw.out
                            have k2 : Hull (SeenD (fun p q => doF 5 p q = oneF true) (fun p _ => p) a al ah b bl bh n (m + 1)) (addS (f, fl, fh) n) := (HF.out.add n).congr (fun r => seenD_yes K1.out K2.out K4.out r)
                            rw [← k, hJ1.out] at k2; exact k2
                          have HN2 : Hid (Hull (SeenD (fun p q => doF 5 p q = oneF true) (fun _ q => q) a al ah b bl bh n (m + 1)) (g1, g2, g3)) := by
                            have k := join_add (hull_okF HG.out (fun r hr => by obtain ⟨p, q, h1, h2, _, _, rfl⟩ := hr; exact has_bd h2)) hmw.out
                            have k2 : Hull (SeenD (fun p q => doF 5 p q = oneF true) (fun _ q => q) a al ah b bl bh n (m + 1)) (addS (g, gl, gh) m) := (HG.out.add m).congr (fun r => seenD_yes K1.out K2.out K4.out r)
                            rw [← k, hJ2.out] at k2; exact k2
                          go_wp2_with fail
                          have hBo := hB
                          refine wp_region_inv (by kernel_rfl) (by kernel_rfl) (UI (fun s0 s1 s2 s3 => ⟨#[Value.slice a0 len0 cap0, undef, Value.bool false, Value.int IntKind.i64 5, Value.pointer (some { block := y1.heap.size, off := 0 }), Value.pointer (some { block := y1.heap.size + 1, off := 0 }), Value.bool true, Value.pointer (some { block := y3.heap.size, off := 0 }), Value.pointer (some { block := y3.heap.size + 1, off := 0 }), Value.pointer (some { block := y5.heap.size, off := 0 }), Value.pointer (some { block := y5.heap.size + 1, off := 0 }), Value.pointer (some { block := y8.heap.size, off := 0 }), Value.pointer (some { block := y8.heap.size + 1, off := 0 }), Value.int IntKind.i64 n, Value.int IntKind.i64 m, Value.int IntKind.i64 1, Value.bool true, Value.slice a0 len0 cap0, Value.int IntKind.i64 ↑len0, Value.bool false, Value.tuple #[Value.int IntKind.i64 5, Value.agg #[Value.bool a, Value.int IntKind.i64 al, Value.int IntKind.i64 ah], Value.agg #[Value.bool b, Value.int IntKind.i64 bl, Value.int IntKind.i64 bh], Value.bool true], Value.slice a0 len0 cap0, Value.tuple #[Value.int IntKind.i64 5, Value.agg #[Value.bool a, Value.int IntKind.i64 al, Value.int IntKind.i64 ah], Value.agg #[Value.bool b, Value.int IntKind.i64 bl, Value.int IntKind.i64 bh], Value.bool true], Value.int IntKind.i64 5, Value.agg #[Value.bool a, Value.int IntKind.i64 al, Value.int IntKind.i64 ah], Value.agg #[Value.bool b, Value.int IntKind.i64 bl, Value.int IntKind.i64 bh], Value.bool true, Value.tuple #[Value.agg #[Value.bool j1, Value.int IntKind.i64 j2, Value.int IntKind.i64 j3], Value.agg #[Value.bool i1, Value.int IntKind.i64 i2, Value.int IntKind.i64 i3]], Value.int IntKind.i64 5, Value.agg #[Value.bool a, Value.int IntKind.i64 al, Value.int IntKind.i64 ah], Value.agg #[Value.bool b, Value.int IntKind.i64 bl, Value.int IntKind.i64 bh], Value.bool true, Value.tuple #[Value.agg #[Value.bool j1, Value.int IntKind.i64 j2, Value.int IntKind.i64 j3], Value.agg #[Value.bool i1, Value.int IntKind.i64 i2, Value.int IntKind.i64 i3]], Value.agg #[Value.bool j1, Value.int IntKind.i64 j2, Value.int IntKind.i64 j3], Value.agg #[Value.bool i1, Value.int IntKind.i64 i2, Value.int IntKind.i64 i3], Value.tuple #[Value.agg #[Value.bool j1, Value.int IntKind.i64 j2, Value.int IntKind.i64 j3], Value.agg #[Value.bool i1, Value.int IntKind.i64 i2, Value.int IntKind.i64 i3]], Value.int IntKind.i64 5, Value.agg #[Value.bool a, Value.int IntKind.i64 al, Value.int IntKind.i64 ah], Value.agg #[Value.bool b, Value.int IntKind.i64 bl, Value.int IntKind.i64 bh], Value.bool true, Value.tuple #[Value.agg #[Value.bool j1, Value.int IntKind.i64 j2, Value.int IntKind.i64 j3], Value.agg #[Value.bool i1, Value.int IntKind.i64 i2, Value.int IntKind.i64 i3]], Value.agg #[Value.bool j1, Value.int IntKind.i64 j2, Value.int IntKind.i64 j3], Value.agg #[Value.bool i1, Value.int IntKind.i64 i2, Value.int IntKind.i64 i3], Value.agg #[Value.bool j1, Value.int IntKind.i64 j2, Value.int IntKind.i64 j3], Value.agg #[Value.bool j1, Value.int IntKind.i64 j2, Value.int IntKind.i64 j3], Value.bool false, Value.bool false, Value.agg #[Value.bool i1, Value.int IntKind.i64 i2, Value.int IntKind.i64 i3], Value.agg #[Value.bool i1, Value.int IntKind.i64 i2, Value.int IntKind.i64 i3], Value.bool false, Value.bool false, Value.bool false, Value.agg #[Value.bool a, Value.int IntKind.i64 al, Value.int IntKind.i64 ah], Value.bool true, Value.bool false, Value.bool false, Value.bool false, Value.agg #[Value.bool b, Value.int IntKind.i64 bl, Value.int IntKind.i64 bh], Value.bool true, Value.bool false, Value.bool false, Value.bool false, Value.int IntKind.i64 5, Value.bool false, Value.bool false, undef, undef, Value.bool false, Value.bool false, undef, undef, undef, undef, undef, undef, undef, undef, Value.agg #[Value.bool false, Value.int IntKind.i64 0, Value.int IntKind.i64 0], Value.agg #[Value.bool false, Value.int IntKind.i64 0, Value.int IntKind.i64 0], Value.int IntKind.i64 n, Value.bool true, u81, u82, Value.int IntKind.i64 m, Value.bool true, u85, u86, Value.tuple #[Value.int IntKind.i64 1, Value.bool true], Value.int IntKind.i64 5, Value.int IntKind.i64 n, Value.int IntKind.i64 m, Value.tuple #[Value.int IntKind.i64 1, Value.bool true], Value.int IntKind.i64 1, Value.bool true, Value.agg #[Value.bool a, Value.int IntKind.i64 al, Value.int IntKind.i64 ah], Value.int IntKind.i64 n, Value.bool true, Value.bool true, Value.agg #[Value.bool b, Value.int IntKind.i64 bl, Value.int IntKind.i64 bh], Value.int IntKind.i64 m, Value.bool true, Value.bool true, Value.bool true, Value.int IntKind.i64 1, Value.bool true, Value.bool true, Value.bool true, Value.bool true, s0, s1, s2, s3, u112, u113, u114, u115, undef, undef, undef, undef, undef, undef, undef, undef], []⟩) y12 (.agg #[.bool f, .int .i64 fl, .int .i64 fh]) (.int .i64 n) (.agg #[.bool true, .int .i64 n, .int .i64 n]) (.agg #[.bool f1, .int .i64 f2, .int .i64 f3]) (SetSp y12 (y8.heap.size) f1 f2 f3)) ?start ?step ?fin
                          case start => exact ⟨false, false, false, false, false, _, _, _, _, rfl, rfl, fun _ => Below.drew (Below.refl _ _), (fun h => by cases h), (fun h => by cases h), Sl.no, Sl.no, Sl.no, Sl.no⟩
                          case step =>
                            intro listed a x hI i o ho hun hpre
                            obtain ⟨b0, b1, b2, b3, b4, s0, s1, s2, s3, rfl, rfl, hB0, hD, h4, h0, h1, h2, h3⟩ := hI
                            rcases i with _ | i
                            · obtain rfl := Option.some.inj ho
                              have e : b0 = false := hun
                              subst e
                              obtain rfl : b4 = false := by
                                cases b4
                                · rfl
                                · have := h4 rfl; simp at this
                              have hBx := hB0 rfl
                              clear hB0 hD h4 hun
                              refine wpOp_of ho rfl fun K hK => ?_
                              clear ho hpre
                              obtain ⟨n, c0, c1, c2, f0, f1, f2⟩ := SF.later hBx
                              go_simp
                              exact hK _ _ ⟨true, b1, b2, b3, false, _, s1, s2, s3, rfl, rfl, fun _ => hBx, (fun h => by cases h), (fun h => by cases h), Sl.mk rfl, h1, h2, h3⟩
                            rcases i with _ | i
                            · obtain rfl := Option.some.inj ho
                              have e : b1 = false := hun
                              subst e
                              obtain rfl : b4 = false := by
                                cases b4
                                · rfl
                                · have := h4 rfl; simp at this
                              have hBx := hB0 rfl
                              clear hB0 hD h4 hun
                              refine wpOp_of ho rfl fun K hK => ?_
                              clear ho hpre
                              go_simp
                              exact hK _ _ ⟨b0, true, b2, b3, false, s0, _, s2, s3, rfl, rfl, fun _ => hBx, (fun h => by cases h), (fun h => by cases h), h0, Sl.mk rfl, h2, h3⟩
                            rcases i with _ | i
                            · obtain rfl := Option.some.inj ho
                              have e : b2 = false := hun
                              subst e
                              obtain rfl : b4 = false := by
                                cases b4
                                · rfl
                                · have := h4 rfl; simp at this
                              have hBx := hB0 rfl
                              clear hB0 hD h4 hun
                              have q1 : b1 = true := hpre ⟨1, .data⟩ (by simp) rfl
                              have e1 : s1 = .int .i64 n := h1.at_ q1
                              subst e1
                              refine wpOp_of ho rfl fun K hK => ?_
                              clear ho hpre
                              go_simp
                              refine (ofw_at hnw.out _).mono ?_
                              rintro e w' ⟨rfl, hbx⟩
                              exact hK _ _ ⟨b0, b1, true, b3, false, s0, _, _, s3, rfl, rfl, fun _ => hBx.trans (hbx.mono hBx.size), (fun h => by cases h), (fun h => by cases h), h0, h1, Sl.mk rfl, h3⟩
                            rcases i with _ | i
                            · obtain rfl := Option.some.inj ho
                              have e : b3 = false := hun
                              subst e
                              obtain rfl : b4 = false := by
                                cases b4
                                · rfl
                                · have := h4 rfl; simp at this
                              have hBx := hB0 rfl
                              clear hB0 hD h4 hun
                              have q0 : b0 = true := hpre ⟨0, .data⟩ (by simp) rfl
                              have e0 : s0 = .agg #[.bool f, .int .i64 fl, .int .i64 fh] := h0.at_ q0
                              subst e0
                              have q2 : b2 = true := hpre ⟨2, .data⟩ (by simp) rfl
                              have e2 : s2 = .agg #[.bool true, .int .i64 n, .int .i64 n] := h2.at_ q2
                              subst e2
                              refine wpOp_of ho rfl fun K hK => ?_
                              clear ho hpre
                              go_simp
                              refine (join_at hJ1.out _).mono ?_
                              rintro e w' ⟨rfl, hbx⟩
                              exact hK _ _ ⟨b0, b1, b2, true, false, _, s1, _, _, rfl, rfl, fun _ => hBx.trans (hbx.mono hBx.size), (fun h => by cases h), (fun h => by cases h), h0, h1, h2, Sl.mk rfl⟩
                            rcases i with _ | i
                            · obtain rfl := Option.some.inj ho
                              have e : b4 = false := hun
                              subst e
                              have hBx := hB0 rfl
                              clear hB0 hD h4 hun
                              have q0 : b0 = true := hpre ⟨0, .phase⟩ (by simp) rfl
                              have q1 : b1 = true := hpre ⟨1, .phase⟩ (by simp) rfl
                              have q2 : b2 = true := hpre ⟨2, .phase⟩ (by simp) rfl
                              have q3 : b3 = true := hpre ⟨3, .data⟩ (by simp) rfl
                              have e3 : s3 = .agg #[.bool f1, .int .i64 f2, .int .i64 f3] := h3.at_ q3
                              subst e3
                              refine wpOp_of ho rfl fun K hK => ?_
                              clear ho hpre
                              obtain ⟨n, c0, c1, c2, f0, f1, f2⟩ := SF.later hBx
                              go_simp
                              exact hK _ _ ⟨b0, b1, b2, b3, true, s0, s1, s2, _, rfl, rfl, (fun h => by cases h), fun _ => ⟨_, hBx, rfl⟩, fun _ => ⟨q0, q1, q2, q3⟩, h0, h1, h2, Sl.mk rfl⟩
                            cases ho
                          case fin =>
                            intro listed a x hI hall
                            obtain ⟨b0, b1, b2, b3, b4, s0, s1, s2, s3, rfl, rfl, _, hD, _, _, _, _, _⟩ := hI
                            have hSet := hD (hall 4 (by simp))
                            clear hD hall
                            have SA := hSet.off SA NF.out.1
                            have SB := hSet.off SB NF.out.2.1
                            have SX := hSet.off SX NF.out.2.2.1
                            have SY := hSet.off SY NF.out.2.2.2.1
                            have SG := hSet.off SG NF.out.2.2.2.2.1
                            have SF := hSet.at_ SF
                            have hBo := hSet.below hBo NF.out.2.2.2.2.2
                            clear hSet
                            obtain ⟨z1, hz1⟩ : ∃ z, z = x := ⟨_, rfl⟩
                            subst hz1
                            go_wp2_with fail
                            refine wp_region_inv (by kernel_rfl) (by kernel_rfl) (UI (fun r0 r1 r2 r3 => ⟨#[Value.slice a0 len0 cap0, undef, Value.bool false, Value.int IntKind.i64 5, Value.pointer (some { block := y1.heap.size, off := 0 }), Value.pointer (some { block := y1.heap.size + 1, off := 0 }), Value.bool true, Value.pointer (some { block := y3.heap.size, off := 0 }), Value.pointer (some { block := y3.heap.size + 1, off := 0 }), Value.pointer (some { block := y5.heap.size, off := 0 }), Value.pointer (some { block := y5.heap.size + 1, off := 0 }), Value.pointer (some { block := y8.heap.size, off := 0 }), Value.pointer (some { block := y8.heap.size + 1, off := 0 }), Value.int IntKind.i64 n, Value.int IntKind.i64 m, Value.int IntKind.i64 1, Value.bool true, Value.slice a0 len0 cap0, Value.int IntKind.i64 ↑len0, Value.bool false, Value.tuple #[Value.int IntKind.i64 5, Value.agg #[Value.bool a, Value.int IntKind.i64 al, Value.int IntKind.i64 ah], Value.agg #[Value.bool b, Value.int IntKind.i64 bl, Value.int IntKind.i64 bh], Value.bool true], Value.slice a0 len0 cap0, Value.tuple #[Value.int IntKind.i64 5, Value.agg #[Value.bool a, Value.int IntKind.i64 al, Value.int IntKind.i64 ah], Value.agg #[Value.bool b, Value.int IntKind.i64 bl, Value.int IntKind.i64 bh], Value.bool true], Value.int IntKind.i64 5, Value.agg #[Value.bool a, Value.int IntKind.i64 al, Value.int IntKind.i64 ah], Value.agg #[Value.bool b, Value.int IntKind.i64 bl, Value.int IntKind.i64 bh], Value.bool true, Value.tuple #[Value.agg #[Value.bool j1, Value.int IntKind.i64 j2, Value.int IntKind.i64 j3], Value.agg #[Value.bool i1, Value.int IntKind.i64 i2, Value.int IntKind.i64 i3]], Value.int IntKind.i64 5, Value.agg #[Value.bool a, Value.int IntKind.i64 al, Value.int IntKind.i64 ah], Value.agg #[Value.bool b, Value.int IntKind.i64 bl, Value.int IntKind.i64 bh], Value.bool true, Value.tuple #[Value.agg #[Value.bool j1, Value.int IntKind.i64 j2, Value.int IntKind.i64 j3], Value.agg #[Value.bool i1, Value.int IntKind.i64 i2, Value.int IntKind.i64 i3]], Value.agg #[Value.bool j1, Value.int IntKind.i64 j2, Value.int IntKind.i64 j3], Value.agg #[Value.bool i1, Value.int IntKind.i64 i2, Value.int IntKind.i64 i3], Value.tuple #[Value.agg #[Value.bool j1, Value.int IntKind.i64 j2, Value.int IntKind.i64 j3], Value.agg #[Value.bool i1, Value.int IntKind.i64 i2, Value.int IntKind.i64 i3]], Value.int IntKind.i64 5, Value.agg #[Value.bool a, Value.int IntKind.i64 al, Value.int IntKind.i64 ah], Value.agg #[Value.bool b, Value.int IntKind.i64 bl, Value.int IntKind.i64 bh], Value.bool true, Value.tuple #[Value.agg #[Value.bool j1, Value.int IntKind.i64 j2, Value.int IntKind.i64 j3], Value.agg #[Value.bool i1, Value.int IntKind.i64 i2, Value.int IntKind.i64 i3]], Value.agg #[Value.bool j1, Value.int IntKind.i64 j2, Value.int IntKind.i64 j3], Value.agg #[Value.bool i1, Value.int IntKind.i64 i2, Value.int IntKind.i64 i3], Value.agg #[Value.bool j1, Value.int IntKind.i64 j2, Value.int IntKind.i64 j3], Value.agg #[Value.bool j1, Value.int IntKind.i64 j2, Value.int IntKind.i64 j3], Value.bool false, Value.bool false, Value.agg #[Value.bool i1, Value.int IntKind.i64 i2, Value.int IntKind.i64 i3], Value.agg #[Value.bool i1, Value.int IntKind.i64 i2, Value.int IntKind.i64 i3], Value.bool false, Value.bool false, Value.bool false, Value.agg #[Value.bool a, Value.int IntKind.i64 al, Value.int IntKind.i64 ah], Value.bool true, Value.bool false, Value.bool false, Value.bool false, Value.agg #[Value.bool b, Value.int IntKind.i64 bl, Value.int IntKind.i64 bh], Value.bool true, Value.bool false, Value.bool false, Value.bool false, Value.int IntKind.i64 5, Value.bool false, Value.bool false, undef, undef, Value.bool false, Value.bool false, undef, undef, undef, undef, undef, undef, undef, undef, Value.agg #[Value.bool false, Value.int IntKind.i64 0, Value.int IntKind.i64 0], Value.agg #[Value.bool false, Value.int IntKind.i64 0, Value.int IntKind.i64 0], Value.int IntKind.i64 n, Value.bool true, u81, u82, Value.int IntKind.i64 m, Value.bool true, u85, u86, Value.tuple #[Value.int IntKind.i64 1, Value.bool true], Value.int IntKind.i64 5, Value.int IntKind.i64 n, Value.int IntKind.i64 m, Value.tuple #[Value.int IntKind.i64 1, Value.bool true], Value.int IntKind.i64 1, Value.bool true, Value.agg #[Value.bool a, Value.int IntKind.i64 al, Value.int IntKind.i64 ah], Value.int IntKind.i64 n, Value.bool true, Value.bool true, Value.agg #[Value.bool b, Value.int IntKind.i64 bl, Value.int IntKind.i64 bh], Value.int IntKind.i64 m, Value.bool true, Value.bool true, Value.bool true, Value.int IntKind.i64 1, Value.bool true, Value.bool true, Value.bool true, Value.bool true, s0, s1, s2, s3, r0, r1, r2, r3, undef, undef, undef, undef, undef, undef, undef, undef], []⟩) z1 (.agg #[.bool g, .int .i64 gl, .int .i64 gh]) (.int .i64 m) (.agg #[.bool true, .int .i64 m, .int .i64 m]) (.agg #[.bool g1, .int .i64 g2, .int .i64 g3]) (SetSp z1 (y8.heap.size + 1) g1 g2 g3)) ?start ?step ?fin
                            case start => exact ⟨false, false, false, false, false, _, _, _, _, rfl, rfl, fun _ => Below.drew (Below.refl _ _), (fun h => by cases h), (fun h => by cases h), Sl.no, Sl.no, Sl.no, Sl.no⟩
                            case step =>
                              intro listed a x hI i o ho hun hpre
                              obtain ⟨b0, b1, b2, b3, b4, s0, s1, s2, s3, rfl, rfl, hB0, hD, h4, h0, h1, h2, h3⟩ := hI
                              rcases i with _ | i
                              · obtain rfl := Option.some.inj ho
                                have e : b0 = false := hun
                                subst e
                                obtain rfl : b4 = false := by
                                  cases b4
                                  · rfl
                                  · have := h4 rfl; simp at this
                                have hBx := hB0 rfl
                                clear hB0 hD h4 hun
                                refine wpOp_of ho rfl fun K hK => ?_
                                clear ho hpre
                                obtain ⟨n, c0, c1, c2, f0, f1, f2⟩ := SG.later hBx
                                go_simp
                                exact hK _ _ ⟨true, b1, b2, b3, false, _, s1, s2, s3, rfl, rfl, fun _ => hBx, (fun h => by cases h), (fun h => by cases h), Sl.mk rfl, h1, h2, h3⟩
                              rcases i with _ | i
                              · obtain rfl := Option.some.inj ho
                                have e : b1 = false := hun
                                subst e
                                obtain rfl : b4 = false := by
                                  cases b4
                                  · rfl
                                  · have := h4 rfl; simp at this
                                have hBx := hB0 rfl
                                clear hB0 hD h4 hun
                                refine wpOp_of ho rfl fun K hK => ?_
                                clear ho hpre
                                go_simp
                                exact hK _ _ ⟨b0, true, b2, b3, false, s0, _, s2, s3, rfl, rfl, fun _ => hBx, (fun h => by cases h), (fun h => by cases h), h0, Sl.mk rfl, h2, h3⟩
                              rcases i with _ | i
                              · obtain rfl := Option.some.inj ho
                                have e : b2 = false := hun
                                subst e
                                obtain rfl : b4 = false := by
                                  cases b4
                                  · rfl
                                  · have := h4 rfl; simp at this
                                have hBx := hB0 rfl
                                clear hB0 hD h4 hun
                                have q1 : b1 = true := hpre ⟨1, .data⟩ (by simp) rfl
                                have e1 : s1 = .int .i64 m := h1.at_ q1
                                subst e1
                                refine wpOp_of ho rfl fun K hK => ?_
                                clear ho hpre
                                go_simp
                                refine (ofw_at hmw.out _).mono ?_
                                rintro e w' ⟨rfl, hbx⟩
                                exact hK _ _ ⟨b0, b1, true, b3, false, s0, _, _, s3, rfl, rfl, fun _ => hBx.trans (hbx.mono hBx.size), (fun h => by cases h), (fun h => by cases h), h0, h1, Sl.mk rfl, h3⟩
                              rcases i with _ | i
                              · obtain rfl := Option.some.inj ho
                                have e : b3 = false := hun
                                subst e
                                obtain rfl : b4 = false := by
                                  cases b4
                                  · rfl
                                  · have := h4 rfl; simp at this
                                have hBx := hB0 rfl
                                clear hB0 hD h4 hun
                                have q0 : b0 = true := hpre ⟨0, .data⟩ (by simp) rfl
                                have e0 : s0 = .agg #[.bool g, .int .i64 gl, .int .i64 gh] := h0.at_ q0
                                subst e0
                                have q2 : b2 = true := hpre ⟨2, .data⟩ (by simp) rfl
                                have e2 : s2 = .agg #[.bool true, .int .i64 m, .int .i64 m] := h2.at_ q2
                                subst e2
                                refine wpOp_of ho rfl fun K hK => ?_
                                clear ho hpre
                                go_simp
                                refine (join_at hJ2.out _).mono ?_
                                rintro e w' ⟨rfl, hbx⟩
                                exact hK _ _ ⟨b0, b1, b2, true, false, _, s1, _, _, rfl, rfl, fun _ => hBx.trans (hbx.mono hBx.size), (fun h => by cases h), (fun h => by cases h), h0, h1, h2, Sl.mk rfl⟩
                              rcases i with _ | i
                              · obtain rfl := Option.some.inj ho
                                have e : b4 = false := hun
                                subst e
                                have hBx := hB0 rfl
                                clear hB0 hD h4 hun
                                have q0 : b0 = true := hpre ⟨0, .phase⟩ (by simp) rfl
                                have q1 : b1 = true := hpre ⟨1, .phase⟩ (by simp) rfl
                                have q2 : b2 = true := hpre ⟨2, .phase⟩ (by simp) rfl
                                have q3 : b3 = true := hpre ⟨3, .data⟩ (by simp) rfl
                                have e3 : s3 = .agg #[.bool g1, .int .i64 g2, .int .i64 g3] := h3.at_ q3
                                subst e3
                                refine wpOp_of ho rfl fun K hK => ?_
                                clear ho hpre
                                obtain ⟨n, c0, c1, c2, f0, f1, f2⟩ := SG.later hBx
                                go_simp
                                exact hK _ _ ⟨b0, b1, b2, b3, true, s0, s1, s2, _, rfl, rfl, (fun h => by cases h), fun _ => ⟨_, hBx, rfl⟩, fun _ => ⟨q0, q1, q2, q3⟩, h0, h1, h2, Sl.mk rfl⟩
                              cases ho
                            case fin =>
                              intro listed a x hI hall
                              obtain ⟨b0, b1, b2, b3, b4, s0, s1, s2, s3, rfl, rfl, _, hD, _, _, _, _, _⟩ := hI
                              have hSet := hD (hall 4 (by simp))
                              clear hD hall
                              have SA := hSet.off SA NG.out.1
                              have SB := hSet.off SB NG.out.2.1
                              have SX := hSet.off SX NG.out.2.2.1
                              have SY := hSet.off SY NG.out.2.2.2.1
                              have SF := hSet.off SF NG.out.2.2.2.2.1
                              have SG := hSet.at_ SG
                              have hB := hSet.below hBo NG.out.2.2.2.2.2
                              clear hSet
                              go_wp2_with fail
                              go_roundw
                              case rel => exact ⟨m + 1, f1, f2, f3, g1, g2, g3, by omega, by omega, by go_num, HN1.out, HN2.out, hB, SA, SB, SX, SY, SF, SG⟩
                              case measure => simp [intOf]; omega
                · have HN1 : Hid (Hull (SeenD (fun p q => doF 5 p q = oneF yes) (fun p _ => p) a al ah b bl bh (n + 1) (-16)) (f, fl, fh)) := HF.out.congr (seenD_row (by omega))
                  have HN2 : Hid (Hull (SeenD (fun p q => doF 5 p q = oneF yes) (fun _ q => q) a al ah b bl bh (n + 1) (-16)) (g, gl, gh)) := HG.out.congr (seenD_row (by omega))
                  go_wp2_with fail
                  go_roundw
                  case rel => exact ⟨n + 1, f, fl, fh, g, gl, gh, by omega, by omega, by go_num, HN1.out, HN2.out, hB, SA, SB, SX, SY, SF, SG⟩
                  case measure => simp [intOf]; omega
            · obtain rfl : n = 16 := by omega
              have he1 := when_fst (show (5 : Int) = 5 ∨ (5 : Int) = 6 from .inl rfl) HW.out HO0.out HO1.out HF.out
              have he2 := when_snd (show (5 : Int) = 5 ∨ (5 : Int) = 6 from .inl rfl) HW.out HO0.out HO1.out HG.out
              simp only [Prod.mk.injEq] at he1 he2
              obtain ⟨rfl, rfl, rfl⟩ := he1
              obtain ⟨rfl, rfl, rfl⟩ := he2
              clear n0 n1 hlt HF HG HW
              obtain ⟨nX, c0X, c1X, c2X, f0X, f1X, f2X⟩ := id SX
              obtain ⟨nY, c0Y, c1Y, c2Y, f0Y, f1Y, f2Y⟩ := id SY
              obtain ⟨nF, c0F, c1F, c2F, f0F, f1F, f2F⟩ := id SF
              obtain ⟨nG, c0G, c1G, c2G, f0G, f1G, f2G⟩ := id SG
              go_wp2_with fail
              go_ret
              exact ⟨rfl, by assumption⟩
        · clear SWX SWY
          have nA : y1.heap.size < y8.heap.size := SA.lt
          have nB : y1.heap.size + 1 < y8.heap.size := SB.lt
          have nX : y3.heap.size < y8.heap.size := SX.lt
          have nY : y3.heap.size + 1 < y8.heap.size := SY.lt
          have hwt : w.heap.size ≤ y8.heap.size := hB.size
          go_wp2_with fail
          have hG : Below y8.heap.size y8 ((y8.alloc (.cells #[.bool false, .int .i64 0, .int .i64 0] 24)).alloc (.cells #[.bool false, .int .i64 0, .int .i64 0] 24)) := by go_grown
          replace SA := SA.later hG
          replace SB := SB.later hG
          replace SX := SX.later hG
          replace SY := SY.later hG
          have SF : Sp3 ((y8.alloc (.cells #[.bool false, .int .i64 0, .int .i64 0] 24)).alloc (.cells #[.bool false, .int .i64 0, .int .i64 0] 24)) (y8.heap.size) false 0 0 := ⟨by go_size, by simp [go_sem], by simp [go_sem], by simp [go_sem], by simp [go_sem], by simp [go_sem], by simp [go_sem]⟩
          have SG : Sp3 ((y8.alloc (.cells #[.bool false, .int .i64 0, .int .i64 0] 24)).alloc (.cells #[.bool false, .int .i64 0, .int .i64 0] 24)) (y8.heap.size + 1) false 0 0 := ⟨by go_size, by simp [go_sem], by simp [go_sem], by simp [go_sem], by simp [go_sem], by simp [go_sem], by simp [go_sem]⟩
          replace hB := hB.trans (hG.mono hB.size)
          clear hG
          generalize hgen : ((y8.alloc (.cells #[.bool false, .int .i64 0, .int .i64 0] 24)).alloc (.cells #[.bool false, .int .i64 0, .int .i64 0] 24)) = y9 at SA SB SX SY SF SG  hB ⊢
          have NF : Hid ((y1.heap.size) ≠ y8.heap.size ∧ (y1.heap.size + 1) ≠ y8.heap.size ∧ (y3.heap.size) ≠ y8.heap.size ∧ (y3.heap.size + 1) ≠ y8.heap.size ∧ (y8.heap.size + 1) ≠ y8.heap.size ∧ w.heap.size ≤ y8.heap.size) := ⟨by omega, by omega, by omega, by omega, by omega, by omega⟩
          have NG : Hid ((y1.heap.size) ≠ y8.heap.size + 1 ∧ (y1.heap.size + 1) ≠ y8.heap.size + 1 ∧ (y3.heap.size) ≠ y8.heap.size + 1 ∧ (y3.heap.size + 1) ≠ y8.heap.size + 1 ∧ (y8.heap.size) ≠ y8.heap.size + 1 ∧ w.heap.size ≤ y8.heap.size + 1) := ⟨by omega, by omega, by omega, by omega, by omega, by omega⟩
          clear nA nB nX nY hwt
          go_loopw [13] (fun s13 x => ∃ (n : Int) (f : Bool) (fl fh : Int) (g : Bool) (gl gh : Int), -16 ≤ n ∧ n ≤ 16 ∧ s13 = .int .i64 n ∧ Hid (Hull (SeenD (fun p q => doF 6 p q = oneF yes) (fun p _ => p) a al ah b bl bh n (-16)) (f, fl, fh)) ∧ Hid (Hull (SeenD (fun p q => doF 6 p q = oneF yes) (fun _ q => q) a al ah b bl bh n (-16)) (g, gl, gh)) ∧ Below w.heap.size w x ∧ Sp3 x (y1.heap.size) a al ah ∧ Sp3 x (y1.heap.size + 1) b bl bh ∧ Sp3 x (y3.heap.size) j1 j2 j3 ∧ Sp3 x (y3.heap.size + 1) i1 i2 i3 ∧ Sp3 x (y8.heap.size) f fl fh ∧ Sp3 x (y8.heap.size + 1) g gl gh) (fun s13 _ => (16 - intOf s13).toNat)
          case atStart => exact ⟨-16, false, 0, 0, false, 0, 0, by omega, by omega, rfl, Hull.empty seenD_zero, Hull.empty seenD_zero, hB, SA, SB, SX, SY, SF, SG⟩
          case round =>
            clear SA SB SX SY SF SG hB
            obtain ⟨n, f, fl, fh, g, gl, gh, n0, n1, rfl, HF, HG, hB, SA, SB, SX, SY, SF, SG⟩ := hrel
            by_cases hlt : n ≤ 15
            · go_wp2_with fail
              go_loopw [14] (fun s14 x => ∃ (m : Int) (f : Bool) (fl fh : Int) (g : Bool) (gl gh : Int), -16 ≤ m ∧ m ≤ 16 ∧ s14 = .int .i64 m ∧ Hid (Hull (SeenD (fun p q => doF 6 p q = oneF yes) (fun p _ => p) a al ah b bl bh n m) (f, fl, fh)) ∧ Hid (Hull (SeenD (fun p q => doF 6 p q = oneF yes) (fun _ q => q) a al ah b bl bh n m) (g, gl, gh)) ∧ Below w.heap.size w x ∧ Sp3 x (y1.heap.size) a al ah ∧ Sp3 x (y1.heap.size + 1) b bl bh ∧ Sp3 x (y3.heap.size) j1 j2 j3 ∧ Sp3 x (y3.heap.size + 1) i1 i2 i3 ∧ Sp3 x (y8.heap.size) f fl fh ∧ Sp3 x (y8.heap.size + 1) g gl gh) (fun s14 _ => (16 - intOf s14).toNat)
              case atStart => exact ⟨-16, f, fl, fh, g, gl, gh, by omega, by omega, rfl, HF.out, HG.out, hB, SA, SB, SX, SY, SF, SG⟩
              case round =>
                clear SA SB SX SY SF SG hB HF HG f fl fh g gl gh
                obtain ⟨m, f, fl, fh, g, gl, gh, m0, m1, rfl, HF, HG, hB, SA, SB, SX, SY, SF, SG⟩ := hrel
                by_cases hmt : m ≤ 15
                · obtain ⟨v, hv⟩ : ∃ v, Hid (doF 6 n m = v) := ⟨_, rfl⟩
                  have gv := when_give (show (6 : Int) = 5 ∨ (6 : Int) = 6 from .inr rfl) (p := n) (q := m) (by omega) (by omega)
                  have hv01 : v = 0 ∨ v = 1 := by have := raw_01 (p := n) (q := m) (show (6 : Int) = 5 ∨ (6 : Int) = 6 from .inr rfl); rw [← gv.1, hv.out] at this; exact this
                  have K3 : Hid (doOk 6 n m = true) := gv.2
                  have HV : Hid (v = 0 ∨ v = 1) := hv01
                  clear gv hv01
                  go_wp2_with fail
                  refine (num_at hv.out K3.out _).mono ?_
                  rintro e y10 ⟨rfl, hb⟩
                  replace SA := SA.later hb
                  replace SB := SB.later hb
                  replace SX := SX.later hb
                  replace SY := SY.later hb
                  replace SF := SF.later hb
                  replace SG := SG.later hb
                  replace hB := hB.trans (hb.mono hB.size)
                  clear hb
                  cases hh1 : hasF a al ah n
                  · have K1 : Hid (hasF a al ah n = false) := hh1
                    clear hh1
                    obtain ⟨nA, c0A, c1A, c2A, f0A, f1A, f2A⟩ := id SA
                    go_wp2_with fail
                    clear nA c0A c1A c2A f0A f1A f2A
                    refine (has_at K1.out _).mono ?_
                    rintro e y11 ⟨rfl, hb⟩
                    replace SA := SA.later hb
                    replace SB := SB.later hb
                    replace SX := SX.later hb
                    replace SY := SY.later hb
                    replace SF := SF.later hb
                    replace SG := SG.later hb
                    replace hB := hB.trans (hb.mono hB.size)
                    clear hb
                    have hno : ¬ (hasF a al ah n = true ∧ hasF b bl bh m = true ∧ doF 6 n m = oneF yes) := by rw [K1.out]; simp
                    have HNO : Hid (¬ (hasF a al ah n = true ∧ hasF b bl bh m = true ∧ doF 6 n m = oneF yes)) := hno
                    clear hno
                    have HN1 : Hid (Hull (SeenD (fun p q => doF 6 p q = oneF yes) (fun p _ => p) a al ah b bl bh n (m + 1)) (f, fl, fh)) := HF.out.congr (seenD_no HNO.out)
                    have HN2 : Hid (Hull (SeenD (fun p q => doF 6 p q = oneF yes) (fun _ q => q) a al ah b bl bh n (m + 1)) (g, gl, gh)) := HG.out.congr (seenD_no HNO.out)
                    go_wp2_with fail
                    go_roundw
                    case rel => exact ⟨m + 1, f, fl, fh, g, gl, gh, by omega, by omega, by go_num, HN1.out, HN2.out, hB, SA, SB, SX, SY, SF, SG⟩
                    case measure => simp [intOf]; omega
                  · have K1 : Hid (hasF a al ah n = true) := hh1
                    clear hh1
                    obtain ⟨nA, c0A, c1A, c2A, f0A, f1A, f2A⟩ := id SA
                    go_wp2_with fail
                    clear nA c0A c1A c2A f0A f1A f2A
                    refine (has_at K1.out _).mono ?_
                    rintro e y11 ⟨rfl, hb⟩
                    replace SA := SA.later hb
                    replace SB := SB.later hb
                    replace SX := SX.later hb
                    replace SY := SY.later hb
                    replace SF := SF.later hb
                    replace SG := SG.later hb
                    replace hB := hB.trans (hb.mono hB.size)
                    clear hb
                    cases hh2 : hasF b bl bh m
                    · have K2 : Hid (hasF b bl bh m = false) := hh2
                      clear hh2
                      obtain ⟨nB, c0B, c1B, c2B, f0B, f1B, f2B⟩ := id SB
                      go_wp2_with fail
                      clear nB c0B c1B c2B f0B f1B f2B
                      refine (has_at K2.out _).mono ?_
                      rintro e y12 ⟨rfl, hb⟩
                      replace SA := SA.later hb
                      replace SB := SB.later hb
                      replace SX := SX.later hb
                      replace SY := SY.later hb
                      replace SF := SF.later hb
                      replace SG := SG.later hb
                      replace hB := hB.trans (hb.mono hB.size)
                      clear hb
                      have hno : ¬ (hasF a al ah n = true ∧ hasF b bl bh m = true ∧ doF 6 n m = oneF yes) := by rw [K2.out]; simp
                      have HNO : Hid (¬ (hasF a al ah n = true ∧ hasF b bl bh m = true ∧ doF 6 n m = oneF yes)) := hno
                      clear hno
                      have HN1 : Hid (Hull (SeenD (fun p q => doF 6 p q = oneF yes) (fun p _ => p) a al ah b bl bh n (m + 1)) (f, fl, fh)) := HF.out.congr (seenD_no HNO.out)
                      have HN2 : Hid (Hull (SeenD (fun p q => doF 6 p q = oneF yes) (fun _ q => q) a al ah b bl bh n (m + 1)) (g, gl, gh)) := HG.out.congr (seenD_no HNO.out)
                      go_wp2_with fail
                      go_roundw
                      case rel => exact ⟨m + 1, f, fl, fh, g, gl, gh, by omega, by omega, by go_num, HN1.out, HN2.out, hB, SA, SB, SX, SY, SF, SG⟩
                      case measure => simp [intOf]; omega
                    · have K2 : Hid (hasF b bl bh m = true) := hh2
                      clear hh2
                      obtain ⟨nB, c0B, c1B, c2B, f0B, f1B, f2B⟩ := id SB
                      go_wp2_with fail
                      clear nB c0B c1B c2B f0B f1B f2B
                      refine (has_at K2.out _).mono ?_
                      rintro e y12 ⟨rfl, hb⟩
                      replace SA := SA.later hb
                      replace SB := SB.later hb
                      replace SX := SX.later hb
                      replace SY := SY.later hb
                      replace SF := SF.later hb
                      replace SG := SG.later hb
                      replace hB := hB.trans (hb.mono hB.size)
                      clear hb
                      rcases HV.out with hv0 | hv0
                      · subst hv0
                        cases yes
                        · have k4 : doF 6 n m = oneF false := by rw [hv.out]; rfl
                          have K4 : Hid (doF 6 n m = oneF false) := k4
                          clear k4
                          have hnw0 : isW n = true := by simp [isW]; omega
                          have hmw0 : isW m = true := by simp [isW]; omega
                          have hnw : Hid (isW n = true) := hnw0
                          have hmw : Hid (isW m = true) := hmw0
                          clear hnw0 hmw0
                          obtain ⟨f1, f2, f3, hJ1⟩ : ∃ f1 f2 f3, Hid (joinF f fl fh true n n = (f1, f2, f3)) := ⟨_, _, _, rfl⟩
                          obtain ⟨g1, g2, g3, hJ2⟩ : ∃ g1 g2 g3, Hid (joinF g gl gh true m m = (g1, g2, g3)) := ⟨_, _, _, rfl⟩
                          have HN1 : Hid (Hull (SeenD (fun p q => doF 6 p q = oneF false) (fun p _ => p) a al ah b bl bh n (m + 1)) (f1, f2, f3)) := by
                            have k := join_add (hull_okF HF.out (fun r hr => by obtain ⟨p, q, h1, h2, _, _, rfl⟩ := hr; exact has_bd h1)) hnw.out
                            have k2 : Hull (SeenD (fun p q => doF 6 p q = oneF false) (fun p _ => p) a al ah b bl bh n (m + 1)) (addS (f, fl, fh) n) := (HF.out.add n).congr (fun r => seenD_yes K1.out K2.out K4.out r)
                            rw [← k, hJ1.out] at k2; exact k2
                          have HN2 : Hid (Hull (SeenD (fun p q => doF 6 p q = oneF false) (fun _ q => q) a al ah b bl bh n (m + 1)) (g1, g2, g3)) := by
                            have k := join_add (hull_okF HG.out (fun r hr => by obtain ⟨p, q, h1, h2, _, _, rfl⟩ := hr; exact has_bd h2)) hmw.out
                            have k2 : Hull (SeenD (fun p q => doF 6 p q = oneF false) (fun _ q => q) a al ah b bl bh n (m + 1)) (addS (g, gl, gh) m) := (HG.out.add m).congr (fun r => seenD_yes K1.out K2.out K4.out r)
                            rw [← k, hJ2.out] at k2; exact k2
                          go_wp2_with fail
                          have hBo := hB
                          refine wp_region_inv (by kernel_rfl) (by kernel_rfl) (UI (fun s0 s1 s2 s3 => ⟨#[Value.slice a0 len0 cap0, undef, Value.bool false, Value.int IntKind.i64 6, Value.pointer (some { block := y1.heap.size, off := 0 }), Value.pointer (some { block := y1.heap.size + 1, off := 0 }), Value.bool false, Value.pointer (some { block := y3.heap.size, off := 0 }), Value.pointer (some { block := y3.heap.size + 1, off := 0 }), Value.pointer (some { block := y5.heap.size, off := 0 }), Value.pointer (some { block := y5.heap.size + 1, off := 0 }), Value.pointer (some { block := y8.heap.size, off := 0 }), Value.pointer (some { block := y8.heap.size + 1, off := 0 }), Value.int IntKind.i64 n, Value.int IntKind.i64 m, Value.int IntKind.i64 0, Value.bool true, Value.slice a0 len0 cap0, Value.int IntKind.i64 ↑len0, Value.bool false, Value.tuple #[Value.int IntKind.i64 6, Value.agg #[Value.bool a, Value.int IntKind.i64 al, Value.int IntKind.i64 ah], Value.agg #[Value.bool b, Value.int IntKind.i64 bl, Value.int IntKind.i64 bh], Value.bool false], Value.slice a0 len0 cap0, Value.tuple #[Value.int IntKind.i64 6, Value.agg #[Value.bool a, Value.int IntKind.i64 al, Value.int IntKind.i64 ah], Value.agg #[Value.bool b, Value.int IntKind.i64 bl, Value.int IntKind.i64 bh], Value.bool false], Value.int IntKind.i64 6, Value.agg #[Value.bool a, Value.int IntKind.i64 al, Value.int IntKind.i64 ah], Value.agg #[Value.bool b, Value.int IntKind.i64 bl, Value.int IntKind.i64 bh], Value.bool false, Value.tuple #[Value.agg #[Value.bool j1, Value.int IntKind.i64 j2, Value.int IntKind.i64 j3], Value.agg #[Value.bool i1, Value.int IntKind.i64 i2, Value.int IntKind.i64 i3]], Value.int IntKind.i64 6, Value.agg #[Value.bool a, Value.int IntKind.i64 al, Value.int IntKind.i64 ah], Value.agg #[Value.bool b, Value.int IntKind.i64 bl, Value.int IntKind.i64 bh], Value.bool false, Value.tuple #[Value.agg #[Value.bool j1, Value.int IntKind.i64 j2, Value.int IntKind.i64 j3], Value.agg #[Value.bool i1, Value.int IntKind.i64 i2, Value.int IntKind.i64 i3]], Value.agg #[Value.bool j1, Value.int IntKind.i64 j2, Value.int IntKind.i64 j3], Value.agg #[Value.bool i1, Value.int IntKind.i64 i2, Value.int IntKind.i64 i3], Value.tuple #[Value.agg #[Value.bool j1, Value.int IntKind.i64 j2, Value.int IntKind.i64 j3], Value.agg #[Value.bool i1, Value.int IntKind.i64 i2, Value.int IntKind.i64 i3]], Value.int IntKind.i64 6, Value.agg #[Value.bool a, Value.int IntKind.i64 al, Value.int IntKind.i64 ah], Value.agg #[Value.bool b, Value.int IntKind.i64 bl, Value.int IntKind.i64 bh], Value.bool false, Value.tuple #[Value.agg #[Value.bool j1, Value.int IntKind.i64 j2, Value.int IntKind.i64 j3], Value.agg #[Value.bool i1, Value.int IntKind.i64 i2, Value.int IntKind.i64 i3]], Value.agg #[Value.bool j1, Value.int IntKind.i64 j2, Value.int IntKind.i64 j3], Value.agg #[Value.bool i1, Value.int IntKind.i64 i2, Value.int IntKind.i64 i3], Value.agg #[Value.bool j1, Value.int IntKind.i64 j2, Value.int IntKind.i64 j3], Value.agg #[Value.bool j1, Value.int IntKind.i64 j2, Value.int IntKind.i64 j3], Value.bool false, Value.bool false, Value.agg #[Value.bool i1, Value.int IntKind.i64 i2, Value.int IntKind.i64 i3], Value.agg #[Value.bool i1, Value.int IntKind.i64 i2, Value.int IntKind.i64 i3], Value.bool false, Value.bool false, Value.bool false, Value.agg #[Value.bool a, Value.int IntKind.i64 al, Value.int IntKind.i64 ah], Value.bool true, Value.bool false, Value.bool false, Value.bool false, Value.agg #[Value.bool b, Value.int IntKind.i64 bl, Value.int IntKind.i64 bh], Value.bool true, Value.bool false, Value.bool false, Value.bool false, Value.int IntKind.i64 6, Value.bool true, Value.bool true, Value.int IntKind.i64 6, Value.bool false, Value.bool false, Value.bool false, undef, undef, undef, undef, undef, undef, undef, undef, Value.agg #[Value.bool false, Value.int IntKind.i64 0, Value.int IntKind.i64 0], Value.agg #[Value.bool false, Value.int IntKind.i64 0, Value.int IntKind.i64 0], Value.int IntKind.i64 n, Value.bool true, u81, u82, Value.int IntKind.i64 m, Value.bool true, u85, u86, Value.tuple #[Value.int IntKind.i64 0, Value.bool true], Value.int IntKind.i64 6, Value.int IntKind.i64 n, Value.int IntKind.i64 m, Value.tuple #[Value.int IntKind.i64 0, Value.bool true], Value.int IntKind.i64 0, Value.bool true, Value.agg #[Value.bool a, Value.int IntKind.i64 al, Value.int IntKind.i64 ah], Value.int IntKind.i64 n, Value.bool true, Value.bool true, Value.agg #[Value.bool b, Value.int IntKind.i64 bl, Value.int IntKind.i64 bh], Value.int IntKind.i64 m, Value.bool true, Value.bool true, Value.bool true, Value.int IntKind.i64 0, Value.bool false, Value.bool false, Value.bool true, Value.bool true, s0, s1, s2, s3, u112, u113, u114, u115, undef, undef, undef, undef, undef, undef, undef, undef], []⟩) y12 (.agg #[.bool f, .int .i64 fl, .int .i64 fh]) (.int .i64 n) (.agg #[.bool true, .int .i64 n, .int .i64 n]) (.agg #[.bool f1, .int .i64 f2, .int .i64 f3]) (SetSp y12 (y8.heap.size) f1 f2 f3)) ?start ?step ?fin
                          case start => exact ⟨false, false, false, false, false, _, _, _, _, rfl, rfl, fun _ => Below.drew (Below.refl _ _), (fun h => by cases h), (fun h => by cases h), Sl.no, Sl.no, Sl.no, Sl.no⟩
                          case step =>
                            intro listed a x hI i o ho hun hpre
                            obtain ⟨b0, b1, b2, b3, b4, s0, s1, s2, s3, rfl, rfl, hB0, hD, h4, h0, h1, h2, h3⟩ := hI
                            rcases i with _ | i
                            · obtain rfl := Option.some.inj ho
                              have e : b0 = false := hun
                              subst e
                              obtain rfl : b4 = false := by
                                cases b4
                                · rfl
                                · have := h4 rfl; simp at this
                              have hBx := hB0 rfl
                              clear hB0 hD h4 hun
                              refine wpOp_of ho rfl fun K hK => ?_
                              clear ho hpre
                              obtain ⟨n, c0, c1, c2, f0, f1, f2⟩ := SF.later hBx
                              go_simp
                              exact hK _ _ ⟨true, b1, b2, b3, false, _, s1, s2, s3, rfl, rfl, fun _ => hBx, (fun h => by cases h), (fun h => by cases h), Sl.mk rfl, h1, h2, h3⟩
                            rcases i with _ | i
                            · obtain rfl := Option.some.inj ho
                              have e : b1 = false := hun
                              subst e
                              obtain rfl : b4 = false := by
                                cases b4
                                · rfl
                                · have := h4 rfl; simp at this
                              have hBx := hB0 rfl
                              clear hB0 hD h4 hun
                              refine wpOp_of ho rfl fun K hK => ?_
                              clear ho hpre
                              go_simp
                              exact hK _ _ ⟨b0, true, b2, b3, false, s0, _, s2, s3, rfl, rfl, fun _ => hBx, (fun h => by cases h), (fun h => by cases h), h0, Sl.mk rfl, h2, h3⟩
                            rcases i with _ | i
                            · obtain rfl := Option.some.inj ho
                              have e : b2 = false := hun
                              subst e
                              obtain rfl : b4 = false := by
                                cases b4
                                · rfl
                                · have := h4 rfl; simp at this
                              have hBx := hB0 rfl
                              clear hB0 hD h4 hun
                              have q1 : b1 = true := hpre ⟨1, .data⟩ (by simp) rfl
                              have e1 : s1 = .int .i64 n := h1.at_ q1
                              subst e1
                              refine wpOp_of ho rfl fun K hK => ?_
                              clear ho hpre
                              go_simp
                              refine (ofw_at hnw.out _).mono ?_
                              rintro e w' ⟨rfl, hbx⟩
                              exact hK _ _ ⟨b0, b1, true, b3, false, s0, _, _, s3, rfl, rfl, fun _ => hBx.trans (hbx.mono hBx.size), (fun h => by cases h), (fun h => by cases h), h0, h1, Sl.mk rfl, h3⟩
                            rcases i with _ | i
                            · obtain rfl := Option.some.inj ho
                              have e : b3 = false := hun
                              subst e
                              obtain rfl : b4 = false := by
                                cases b4
                                · rfl
                                · have := h4 rfl; simp at this
                              have hBx := hB0 rfl
                              clear hB0 hD h4 hun
                              have q0 : b0 = true := hpre ⟨0, .data⟩ (by simp) rfl
                              have e0 : s0 = .agg #[.bool f, .int .i64 fl, .int .i64 fh] := h0.at_ q0
                              subst e0
                              have q2 : b2 = true := hpre ⟨2, .data⟩ (by simp) rfl
                              have e2 : s2 = .agg #[.bool true, .int .i64 n, .int .i64 n] := h2.at_ q2
                              subst e2
                              refine wpOp_of ho rfl fun K hK => ?_
                              clear ho hpre
                              go_simp
                              refine (join_at hJ1.out _).mono ?_
                              rintro e w' ⟨rfl, hbx⟩
                              exact hK _ _ ⟨b0, b1, b2, true, false, _, s1, _, _, rfl, rfl, fun _ => hBx.trans (hbx.mono hBx.size), (fun h => by cases h), (fun h => by cases h), h0, h1, h2, Sl.mk rfl⟩
                            rcases i with _ | i
                            · obtain rfl := Option.some.inj ho
                              have e : b4 = false := hun
                              subst e
                              have hBx := hB0 rfl
                              clear hB0 hD h4 hun
                              have q0 : b0 = true := hpre ⟨0, .phase⟩ (by simp) rfl
                              have q1 : b1 = true := hpre ⟨1, .phase⟩ (by simp) rfl
                              have q2 : b2 = true := hpre ⟨2, .phase⟩ (by simp) rfl
                              have q3 : b3 = true := hpre ⟨3, .data⟩ (by simp) rfl
                              have e3 : s3 = .agg #[.bool f1, .int .i64 f2, .int .i64 f3] := h3.at_ q3
                              subst e3
                              refine wpOp_of ho rfl fun K hK => ?_
                              clear ho hpre
                              obtain ⟨n, c0, c1, c2, f0, f1, f2⟩ := SF.later hBx
                              go_simp
                              exact hK _ _ ⟨b0, b1, b2, b3, true, s0, s1, s2, _, rfl, rfl, (fun h => by cases h), fun _ => ⟨_, hBx, rfl⟩, fun _ => ⟨q0, q1, q2, q3⟩, h0, h1, h2, Sl.mk rfl⟩
                            cases ho
                          case fin =>
                            intro listed a x hI hall
                            obtain ⟨b0, b1, b2, b3, b4, s0, s1, s2, s3, rfl, rfl, _, hD, _, _, _, _, _⟩ := hI
                            have hSet := hD (hall 4 (by simp))
                            clear hD hall
                            have SA := hSet.off SA NF.out.1
                            have SB := hSet.off SB NF.out.2.1
                            have SX := hSet.off SX NF.out.2.2.1
                            have SY := hSet.off SY NF.out.2.2.2.1
                            have SG := hSet.off SG NF.out.2.2.2.2.1
                            have SF := hSet.at_ SF
                            have hBo := hSet.below hBo NF.out.2.2.2.2.2
                            clear hSet
                            obtain ⟨z1, hz1⟩ : ∃ z, z = x := ⟨_, rfl⟩
                            subst hz1
                            go_wp2_with fail
                            refine wp_region_inv (by kernel_rfl) (by kernel_rfl) (UI (fun r0 r1 r2 r3 => ⟨#[Value.slice a0 len0 cap0, undef, Value.bool false, Value.int IntKind.i64 6, Value.pointer (some { block := y1.heap.size, off := 0 }), Value.pointer (some { block := y1.heap.size + 1, off := 0 }), Value.bool false, Value.pointer (some { block := y3.heap.size, off := 0 }), Value.pointer (some { block := y3.heap.size + 1, off := 0 }), Value.pointer (some { block := y5.heap.size, off := 0 }), Value.pointer (some { block := y5.heap.size + 1, off := 0 }), Value.pointer (some { block := y8.heap.size, off := 0 }), Value.pointer (some { block := y8.heap.size + 1, off := 0 }), Value.int IntKind.i64 n, Value.int IntKind.i64 m, Value.int IntKind.i64 0, Value.bool true, Value.slice a0 len0 cap0, Value.int IntKind.i64 ↑len0, Value.bool false, Value.tuple #[Value.int IntKind.i64 6, Value.agg #[Value.bool a, Value.int IntKind.i64 al, Value.int IntKind.i64 ah], Value.agg #[Value.bool b, Value.int IntKind.i64 bl, Value.int IntKind.i64 bh], Value.bool false], Value.slice a0 len0 cap0, Value.tuple #[Value.int IntKind.i64 6, Value.agg #[Value.bool a, Value.int IntKind.i64 al, Value.int IntKind.i64 ah], Value.agg #[Value.bool b, Value.int IntKind.i64 bl, Value.int IntKind.i64 bh], Value.bool false], Value.int IntKind.i64 6, Value.agg #[Value.bool a, Value.int IntKind.i64 al, Value.int IntKind.i64 ah], Value.agg #[Value.bool b, Value.int IntKind.i64 bl, Value.int IntKind.i64 bh], Value.bool false, Value.tuple #[Value.agg #[Value.bool j1, Value.int IntKind.i64 j2, Value.int IntKind.i64 j3], Value.agg #[Value.bool i1, Value.int IntKind.i64 i2, Value.int IntKind.i64 i3]], Value.int IntKind.i64 6, Value.agg #[Value.bool a, Value.int IntKind.i64 al, Value.int IntKind.i64 ah], Value.agg #[Value.bool b, Value.int IntKind.i64 bl, Value.int IntKind.i64 bh], Value.bool false, Value.tuple #[Value.agg #[Value.bool j1, Value.int IntKind.i64 j2, Value.int IntKind.i64 j3], Value.agg #[Value.bool i1, Value.int IntKind.i64 i2, Value.int IntKind.i64 i3]], Value.agg #[Value.bool j1, Value.int IntKind.i64 j2, Value.int IntKind.i64 j3], Value.agg #[Value.bool i1, Value.int IntKind.i64 i2, Value.int IntKind.i64 i3], Value.tuple #[Value.agg #[Value.bool j1, Value.int IntKind.i64 j2, Value.int IntKind.i64 j3], Value.agg #[Value.bool i1, Value.int IntKind.i64 i2, Value.int IntKind.i64 i3]], Value.int IntKind.i64 6, Value.agg #[Value.bool a, Value.int IntKind.i64 al, Value.int IntKind.i64 ah], Value.agg #[Value.bool b, Value.int IntKind.i64 bl, Value.int IntKind.i64 bh], Value.bool false, Value.tuple #[Value.agg #[Value.bool j1, Value.int IntKind.i64 j2, Value.int IntKind.i64 j3], Value.agg #[Value.bool i1, Value.int IntKind.i64 i2, Value.int IntKind.i64 i3]], Value.agg #[Value.bool j1, Value.int IntKind.i64 j2, Value.int IntKind.i64 j3], Value.agg #[Value.bool i1, Value.int IntKind.i64 i2, Value.int IntKind.i64 i3], Value.agg #[Value.bool j1, Value.int IntKind.i64 j2, Value.int IntKind.i64 j3], Value.agg #[Value.bool j1, Value.int IntKind.i64 j2, Value.int IntKind.i64 j3], Value.bool false, Value.bool false, Value.agg #[Value.bool i1, Value.int IntKind.i64 i2, Value.int IntKind.i64 i3], Value.agg #[Value.bool i1, Value.int IntKind.i64 i2, Value.int IntKind.i64 i3], Value.bool false, Value.bool false, Value.bool false, Value.agg #[Value.bool a, Value.int IntKind.i64 al, Value.int IntKind.i64 ah], Value.bool true, Value.bool false, Value.bool false, Value.bool false, Value.agg #[Value.bool b, Value.int IntKind.i64 bl, Value.int IntKind.i64 bh], Value.bool true, Value.bool false, Value.bool false, Value.bool false, Value.int IntKind.i64 6, Value.bool true, Value.bool true, Value.int IntKind.i64 6, Value.bool false, Value.bool false, Value.bool false, undef, undef, undef, undef, undef, undef, undef, undef, Value.agg #[Value.bool false, Value.int IntKind.i64 0, Value.int IntKind.i64 0], Value.agg #[Value.bool false, Value.int IntKind.i64 0, Value.int IntKind.i64 0], Value.int IntKind.i64 n, Value.bool true, u81, u82, Value.int IntKind.i64 m, Value.bool true, u85, u86, Value.tuple #[Value.int IntKind.i64 0, Value.bool true], Value.int IntKind.i64 6, Value.int IntKind.i64 n, Value.int IntKind.i64 m, Value.tuple #[Value.int IntKind.i64 0, Value.bool true], Value.int IntKind.i64 0, Value.bool true, Value.agg #[Value.bool a, Value.int IntKind.i64 al, Value.int IntKind.i64 ah], Value.int IntKind.i64 n, Value.bool true, Value.bool true, Value.agg #[Value.bool b, Value.int IntKind.i64 bl, Value.int IntKind.i64 bh], Value.int IntKind.i64 m, Value.bool true, Value.bool true, Value.bool true, Value.int IntKind.i64 0, Value.bool false, Value.bool false, Value.bool true, Value.bool true, s0, s1, s2, s3, r0, r1, r2, r3, undef, undef, undef, undef, undef, undef, undef, undef], []⟩) z1 (.agg #[.bool g, .int .i64 gl, .int .i64 gh]) (.int .i64 m) (.agg #[.bool true, .int .i64 m, .int .i64 m]) (.agg #[.bool g1, .int .i64 g2, .int .i64 g3]) (SetSp z1 (y8.heap.size + 1) g1 g2 g3)) ?start ?step ?fin
                            case start => exact ⟨false, false, false, false, false, _, _, _, _, rfl, rfl, fun _ => Below.drew (Below.refl _ _), (fun h => by cases h), (fun h => by cases h), Sl.no, Sl.no, Sl.no, Sl.no⟩
                            case step =>
                              intro listed a x hI i o ho hun hpre
                              obtain ⟨b0, b1, b2, b3, b4, s0, s1, s2, s3, rfl, rfl, hB0, hD, h4, h0, h1, h2, h3⟩ := hI
                              rcases i with _ | i
                              · obtain rfl := Option.some.inj ho
                                have e : b0 = false := hun
                                subst e
                                obtain rfl : b4 = false := by
                                  cases b4
                                  · rfl
                                  · have := h4 rfl; simp at this
                                have hBx := hB0 rfl
                                clear hB0 hD h4 hun
                                refine wpOp_of ho rfl fun K hK => ?_
                                clear ho hpre
                                obtain ⟨n, c0, c1, c2, f0, f1, f2⟩ := SG.later hBx
                                go_simp
                                exact hK _ _ ⟨true, b1, b2, b3, false, _, s1, s2, s3, rfl, rfl, fun _ => hBx, (fun h => by cases h), (fun h => by cases h), Sl.mk rfl, h1, h2, h3⟩
                              rcases i with _ | i
                              · obtain rfl := Option.some.inj ho
                                have e : b1 = false := hun
                                subst e
                                obtain rfl : b4 = false := by
                                  cases b4
                                  · rfl
                                  · have := h4 rfl; simp at this
                                have hBx := hB0 rfl
                                clear hB0 hD h4 hun
                                refine wpOp_of ho rfl fun K hK => ?_
                                clear ho hpre
                                go_simp
                                exact hK _ _ ⟨b0, true, b2, b3, false, s0, _, s2, s3, rfl, rfl, fun _ => hBx, (fun h => by cases h), (fun h => by cases h), h0, Sl.mk rfl, h2, h3⟩
                              rcases i with _ | i
                              · obtain rfl := Option.some.inj ho
                                have e : b2 = false := hun
                                subst e
                                obtain rfl : b4 = false := by
                                  cases b4
                                  · rfl
                                  · have := h4 rfl; simp at this
                                have hBx := hB0 rfl
                                clear hB0 hD h4 hun
                                have q1 : b1 = true := hpre ⟨1, .data⟩ (by simp) rfl
                                have e1 : s1 = .int .i64 m := h1.at_ q1
                                subst e1
                                refine wpOp_of ho rfl fun K hK => ?_
                                clear ho hpre
                                go_simp
                                refine (ofw_at hmw.out _).mono ?_
                                rintro e w' ⟨rfl, hbx⟩
                                exact hK _ _ ⟨b0, b1, true, b3, false, s0, _, _, s3, rfl, rfl, fun _ => hBx.trans (hbx.mono hBx.size), (fun h => by cases h), (fun h => by cases h), h0, h1, Sl.mk rfl, h3⟩
                              rcases i with _ | i
                              · obtain rfl := Option.some.inj ho
                                have e : b3 = false := hun
                                subst e
                                obtain rfl : b4 = false := by
                                  cases b4
                                  · rfl
                                  · have := h4 rfl; simp at this
                                have hBx := hB0 rfl
                                clear hB0 hD h4 hun
                                have q0 : b0 = true := hpre ⟨0, .data⟩ (by simp) rfl
                                have e0 : s0 = .agg #[.bool g, .int .i64 gl, .int .i64 gh] := h0.at_ q0
                                subst e0
                                have q2 : b2 = true := hpre ⟨2, .data⟩ (by simp) rfl
                                have e2 : s2 = .agg #[.bool true, .int .i64 m, .int .i64 m] := h2.at_ q2
                                subst e2
                                refine wpOp_of ho rfl fun K hK => ?_
                                clear ho hpre
                                go_simp
                                refine (join_at hJ2.out _).mono ?_
                                rintro e w' ⟨rfl, hbx⟩
                                exact hK _ _ ⟨b0, b1, b2, true, false, _, s1, _, _, rfl, rfl, fun _ => hBx.trans (hbx.mono hBx.size), (fun h => by cases h), (fun h => by cases h), h0, h1, h2, Sl.mk rfl⟩
                              rcases i with _ | i
                              · obtain rfl := Option.some.inj ho
                                have e : b4 = false := hun
                                subst e
                                have hBx := hB0 rfl
                                clear hB0 hD h4 hun
                                have q0 : b0 = true := hpre ⟨0, .phase⟩ (by simp) rfl
                                have q1 : b1 = true := hpre ⟨1, .phase⟩ (by simp) rfl
                                have q2 : b2 = true := hpre ⟨2, .phase⟩ (by simp) rfl
                                have q3 : b3 = true := hpre ⟨3, .data⟩ (by simp) rfl
                                have e3 : s3 = .agg #[.bool g1, .int .i64 g2, .int .i64 g3] := h3.at_ q3
                                subst e3
                                refine wpOp_of ho rfl fun K hK => ?_
                                clear ho hpre
                                obtain ⟨n, c0, c1, c2, f0, f1, f2⟩ := SG.later hBx
                                go_simp
                                exact hK _ _ ⟨b0, b1, b2, b3, true, s0, s1, s2, _, rfl, rfl, (fun h => by cases h), fun _ => ⟨_, hBx, rfl⟩, fun _ => ⟨q0, q1, q2, q3⟩, h0, h1, h2, Sl.mk rfl⟩
                              cases ho
                            case fin =>
                              intro listed a x hI hall
                              obtain ⟨b0, b1, b2, b3, b4, s0, s1, s2, s3, rfl, rfl, _, hD, _, _, _, _, _⟩ := hI
                              have hSet := hD (hall 4 (by simp))
                              clear hD hall
                              have SA := hSet.off SA NG.out.1
                              have SB := hSet.off SB NG.out.2.1
                              have SX := hSet.off SX NG.out.2.2.1
                              have SY := hSet.off SY NG.out.2.2.2.1
                              have SF := hSet.off SF NG.out.2.2.2.2.1
                              have SG := hSet.at_ SG
                              have hB := hSet.below hBo NG.out.2.2.2.2.2
                              clear hSet
                              go_wp2_with fail
                              go_roundw
                              case rel => exact ⟨m + 1, f1, f2, f3, g1, g2, g3, by omega, by omega, by go_num, HN1.out, HN2.out, hB, SA, SB, SX, SY, SF, SG⟩
                              case measure => simp [intOf]; omega
                        · have hno : ¬ (hasF a al ah n = true ∧ hasF b bl bh m = true ∧ doF 6 n m = oneF true) := by rw [hv.out]; simp [oneF]
                          have HNO : Hid (¬ (hasF a al ah n = true ∧ hasF b bl bh m = true ∧ doF 6 n m = oneF true)) := hno
                          clear hno
                          have HN1 : Hid (Hull (SeenD (fun p q => doF 6 p q = oneF true) (fun p _ => p) a al ah b bl bh n (m + 1)) (f, fl, fh)) := HF.out.congr (seenD_no HNO.out)
                          have HN2 : Hid (Hull (SeenD (fun p q => doF 6 p q = oneF true) (fun _ q => q) a al ah b bl bh n (m + 1)) (g, gl, gh)) := HG.out.congr (seenD_no HNO.out)
                          go_wp2_with fail
                          go_roundw
                          case rel => exact ⟨m + 1, f, fl, fh, g, gl, gh, by omega, by omega, by go_num, HN1.out, HN2.out, hB, SA, SB, SX, SY, SF, SG⟩
                          case measure => simp [intOf]; omega
                      · subst hv0
                        cases yes
                        · have hno : ¬ (hasF a al ah n = true ∧ hasF b bl bh m = true ∧ doF 6 n m = oneF false) := by rw [hv.out]; simp [oneF]
                          have HNO : Hid (¬ (hasF a al ah n = true ∧ hasF b bl bh m = true ∧ doF 6 n m = oneF false)) := hno
                          clear hno
                          have HN1 : Hid (Hull (SeenD (fun p q => doF 6 p q = oneF false) (fun p _ => p) a al ah b bl bh n (m + 1)) (f, fl, fh)) := HF.out.congr (seenD_no HNO.out)
                          have HN2 : Hid (Hull (SeenD (fun p q => doF 6 p q = oneF false) (fun _ q => q) a al ah b bl bh n (m + 1)) (g, gl, gh)) := HG.out.congr (seenD_no HNO.out)
                          go_wp2_with fail
                          go_roundw
                          case rel => exact ⟨m + 1, f, fl, fh, g, gl, gh, by omega, by omega, by go_num, HN1.out, HN2.out, hB, SA, SB, SX, SY, SF, SG⟩
                          case measure => simp [intOf]; omega
                        · have k4 : doF 6 n m = oneF true := by rw [hv.out]; rfl
                          have K4 : Hid (doF 6 n m = oneF true) := k4
                          clear k4
                          have hnw0 : isW n = true := by simp [isW]; omega
                          have hmw0 : isW m = true := by simp [isW]; omega
                          have hnw : Hid (isW n = true) := hnw0
                          have hmw : Hid (isW m = true) := hmw0
                          clear hnw0 hmw0
                          obtain ⟨f1, f2, f3, hJ1⟩ : ∃ f1 f2 f3, Hid (joinF f fl fh true n n = (f1, f2, f3)) := ⟨_, _, _, rfl⟩
                          obtain ⟨g1, g2, g3, hJ2⟩ : ∃ g1 g2 g3, Hid (joinF g gl gh true m m = (g1, g2, g3)) := ⟨_, _, _, rfl⟩
                          have HN1 : Hid (Hull (SeenD (fun p q => doF 6 p q = oneF true) (fun p _ => p) a al ah b bl bh n (m + 1)) (f1, f2, f3)) := by
                            have k := join_add (hull_okF HF.out (fun r hr => by obtain ⟨p, q, h1, h2, _, _, rfl⟩ := hr; exact has_bd h1)) hnw.out
                            have k2 : Hull (SeenD (fun p q => doF 6 p q = oneF true) (fun p _ => p) a al ah b bl bh n (m + 1)) (addS (f, fl, fh) n) := (HF.out.add n).congr (fun r => seenD_yes K1.out K2.out K4.out r)
                            rw [← k, hJ1.out] at k2; exact k2
                          have HN2 : Hid (Hull (SeenD (fun p q => doF 6 p q = oneF true) (fun _ q => q) a al ah b bl bh n (m + 1)) (g1, g2, g3)) := by
                            have k := join_add (hull_okF HG.out (fun r hr => by obtain ⟨p, q, h1, h2, _, _, rfl⟩ := hr; exact has_bd h2)) hmw.out
                            have k2 : Hull (SeenD (fun p q => doF 6 p q = oneF true) (fun _ q => q) a al ah b bl bh n (m + 1)) (addS (g, gl, gh) m) := (HG.out.add m).congr (fun r => seenD_yes K1.out K2.out K4.out r)
                            rw [← k, hJ2.out] at k2; exact k2
                          go_wp2_with fail
                          have hBo := hB
                          refine wp_region_inv (by kernel_rfl) (by kernel_rfl) (UI (fun s0 s1 s2 s3 => ⟨#[Value.slice a0 len0 cap0, undef, Value.bool false, Value.int IntKind.i64 6, Value.pointer (some { block := y1.heap.size, off := 0 }), Value.pointer (some { block := y1.heap.size + 1, off := 0 }), Value.bool true, Value.pointer (some { block := y3.heap.size, off := 0 }), Value.pointer (some { block := y3.heap.size + 1, off := 0 }), Value.pointer (some { block := y5.heap.size, off := 0 }), Value.pointer (some { block := y5.heap.size + 1, off := 0 }), Value.pointer (some { block := y8.heap.size, off := 0 }), Value.pointer (some { block := y8.heap.size + 1, off := 0 }), Value.int IntKind.i64 n, Value.int IntKind.i64 m, Value.int IntKind.i64 1, Value.bool true, Value.slice a0 len0 cap0, Value.int IntKind.i64 ↑len0, Value.bool false, Value.tuple #[Value.int IntKind.i64 6, Value.agg #[Value.bool a, Value.int IntKind.i64 al, Value.int IntKind.i64 ah], Value.agg #[Value.bool b, Value.int IntKind.i64 bl, Value.int IntKind.i64 bh], Value.bool true], Value.slice a0 len0 cap0, Value.tuple #[Value.int IntKind.i64 6, Value.agg #[Value.bool a, Value.int IntKind.i64 al, Value.int IntKind.i64 ah], Value.agg #[Value.bool b, Value.int IntKind.i64 bl, Value.int IntKind.i64 bh], Value.bool true], Value.int IntKind.i64 6, Value.agg #[Value.bool a, Value.int IntKind.i64 al, Value.int IntKind.i64 ah], Value.agg #[Value.bool b, Value.int IntKind.i64 bl, Value.int IntKind.i64 bh], Value.bool true, Value.tuple #[Value.agg #[Value.bool j1, Value.int IntKind.i64 j2, Value.int IntKind.i64 j3], Value.agg #[Value.bool i1, Value.int IntKind.i64 i2, Value.int IntKind.i64 i3]], Value.int IntKind.i64 6, Value.agg #[Value.bool a, Value.int IntKind.i64 al, Value.int IntKind.i64 ah], Value.agg #[Value.bool b, Value.int IntKind.i64 bl, Value.int IntKind.i64 bh], Value.bool true, Value.tuple #[Value.agg #[Value.bool j1, Value.int IntKind.i64 j2, Value.int IntKind.i64 j3], Value.agg #[Value.bool i1, Value.int IntKind.i64 i2, Value.int IntKind.i64 i3]], Value.agg #[Value.bool j1, Value.int IntKind.i64 j2, Value.int IntKind.i64 j3], Value.agg #[Value.bool i1, Value.int IntKind.i64 i2, Value.int IntKind.i64 i3], Value.tuple #[Value.agg #[Value.bool j1, Value.int IntKind.i64 j2, Value.int IntKind.i64 j3], Value.agg #[Value.bool i1, Value.int IntKind.i64 i2, Value.int IntKind.i64 i3]], Value.int IntKind.i64 6, Value.agg #[Value.bool a, Value.int IntKind.i64 al, Value.int IntKind.i64 ah], Value.agg #[Value.bool b, Value.int IntKind.i64 bl, Value.int IntKind.i64 bh], Value.bool true, Value.tuple #[Value.agg #[Value.bool j1, Value.int IntKind.i64 j2, Value.int IntKind.i64 j3], Value.agg #[Value.bool i1, Value.int IntKind.i64 i2, Value.int IntKind.i64 i3]], Value.agg #[Value.bool j1, Value.int IntKind.i64 j2, Value.int IntKind.i64 j3], Value.agg #[Value.bool i1, Value.int IntKind.i64 i2, Value.int IntKind.i64 i3], Value.agg #[Value.bool j1, Value.int IntKind.i64 j2, Value.int IntKind.i64 j3], Value.agg #[Value.bool j1, Value.int IntKind.i64 j2, Value.int IntKind.i64 j3], Value.bool false, Value.bool false, Value.agg #[Value.bool i1, Value.int IntKind.i64 i2, Value.int IntKind.i64 i3], Value.agg #[Value.bool i1, Value.int IntKind.i64 i2, Value.int IntKind.i64 i3], Value.bool false, Value.bool false, Value.bool false, Value.agg #[Value.bool a, Value.int IntKind.i64 al, Value.int IntKind.i64 ah], Value.bool true, Value.bool false, Value.bool false, Value.bool false, Value.agg #[Value.bool b, Value.int IntKind.i64 bl, Value.int IntKind.i64 bh], Value.bool true, Value.bool false, Value.bool false, Value.bool false, Value.int IntKind.i64 6, Value.bool true, Value.bool true, Value.int IntKind.i64 6, Value.bool false, Value.bool false, Value.bool false, undef, undef, undef, undef, undef, undef, undef, undef, Value.agg #[Value.bool false, Value.int IntKind.i64 0, Value.int IntKind.i64 0], Value.agg #[Value.bool false, Value.int IntKind.i64 0, Value.int IntKind.i64 0], Value.int IntKind.i64 n, Value.bool true, u81, u82, Value.int IntKind.i64 m, Value.bool true, u85, u86, Value.tuple #[Value.int IntKind.i64 1, Value.bool true], Value.int IntKind.i64 6, Value.int IntKind.i64 n, Value.int IntKind.i64 m, Value.tuple #[Value.int IntKind.i64 1, Value.bool true], Value.int IntKind.i64 1, Value.bool true, Value.agg #[Value.bool a, Value.int IntKind.i64 al, Value.int IntKind.i64 ah], Value.int IntKind.i64 n, Value.bool true, Value.bool true, Value.agg #[Value.bool b, Value.int IntKind.i64 bl, Value.int IntKind.i64 bh], Value.int IntKind.i64 m, Value.bool true, Value.bool true, Value.bool true, Value.int IntKind.i64 1, Value.bool true, Value.bool true, Value.bool true, Value.bool true, s0, s1, s2, s3, u112, u113, u114, u115, undef, undef, undef, undef, undef, undef, undef, undef], []⟩) y12 (.agg #[.bool f, .int .i64 fl, .int .i64 fh]) (.int .i64 n) (.agg #[.bool true, .int .i64 n, .int .i64 n]) (.agg #[.bool f1, .int .i64 f2, .int .i64 f3]) (SetSp y12 (y8.heap.size) f1 f2 f3)) ?start ?step ?fin
                          case start => exact ⟨false, false, false, false, false, _, _, _, _, rfl, rfl, fun _ => Below.drew (Below.refl _ _), (fun h => by cases h), (fun h => by cases h), Sl.no, Sl.no, Sl.no, Sl.no⟩
                          case step =>
                            intro listed a x hI i o ho hun hpre
                            obtain ⟨b0, b1, b2, b3, b4, s0, s1, s2, s3, rfl, rfl, hB0, hD, h4, h0, h1, h2, h3⟩ := hI
                            rcases i with _ | i
                            · obtain rfl := Option.some.inj ho
                              have e : b0 = false := hun
                              subst e
                              obtain rfl : b4 = false := by
                                cases b4
                                · rfl
                                · have := h4 rfl; simp at this
                              have hBx := hB0 rfl
                              clear hB0 hD h4 hun
                              refine wpOp_of ho rfl fun K hK => ?_
                              clear ho hpre
                              obtain ⟨n, c0, c1, c2, f0, f1, f2⟩ := SF.later hBx
                              go_simp
                              exact hK _ _ ⟨true, b1, b2, b3, false, _, s1, s2, s3, rfl, rfl, fun _ => hBx, (fun h => by cases h), (fun h => by cases h), Sl.mk rfl, h1, h2, h3⟩
                            rcases i with _ | i
                            · obtain rfl := Option.some.inj ho
                              have e : b1 = false := hun
                              subst e
                              obtain rfl : b4 = false := by
                                cases b4
                                · rfl
                                · have := h4 rfl; simp at this
                              have hBx := hB0 rfl
                              clear hB0 hD h4 hun
                              refine wpOp_of ho rfl fun K hK => ?_
                              clear ho hpre
                              go_simp
                              exact hK _ _ ⟨b0, true, b2, b3, false, s0, _, s2, s3, rfl, rfl, fun _ => hBx, (fun h => by cases h), (fun h => by cases h), h0, Sl.mk rfl, h2, h3⟩
                            rcases i with _ | i
                            · obtain rfl := Option.some.inj ho
                              have e : b2 = false := hun
                              subst e
                              obtain rfl : b4 = false := by
                                cases b4
                                · rfl
                                · have := h4 rfl; simp at this
                              have hBx := hB0 rfl
                              clear hB0 hD h4 hun
                              have q1 : b1 = true := hpre ⟨1, .data⟩ (by simp) rfl
                              have e1 : s1 = .int .i64 n := h1.at_ q1
                              subst e1
                              refine wpOp_of ho rfl fun K hK => ?_
                              clear ho hpre
                              go_simp
                              refine (ofw_at hnw.out _).mono ?_
                              rintro e w' ⟨rfl, hbx⟩
                              exact hK _ _ ⟨b0, b1, true, b3, false, s0, _, _, s3, rfl, rfl, fun _ => hBx.trans (hbx.mono hBx.size), (fun h => by cases h), (fun h => by cases h), h0, h1, Sl.mk rfl, h3⟩
                            rcases i with _ | i
                            · obtain rfl := Option.some.inj ho
                              have e : b3 = false := hun
                              subst e
                              obtain rfl : b4 = false := by
                                cases b4
                                · rfl
                                · have := h4 rfl; simp at this
                              have hBx := hB0 rfl
                              clear hB0 hD h4 hun
                              have q0 : b0 = true := hpre ⟨0, .data⟩ (by simp) rfl
                              have e0 : s0 = .agg #[.bool f, .int .i64 fl, .int .i64 fh] := h0.at_ q0
                              subst e0
                              have q2 : b2 = true := hpre ⟨2, .data⟩ (by simp) rfl
                              have e2 : s2 = .agg #[.bool true, .int .i64 n, .int .i64 n] := h2.at_ q2
                              subst e2
                              refine wpOp_of ho rfl fun K hK => ?_
                              clear ho hpre
                              go_simp
                              refine (join_at hJ1.out _).mono ?_
                              rintro e w' ⟨rfl, hbx⟩
                              exact hK _ _ ⟨b0, b1, b2, true, false, _, s1, _, _, rfl, rfl, fun _ => hBx.trans (hbx.mono hBx.size), (fun h => by cases h), (fun h => by cases h), h0, h1, h2, Sl.mk rfl⟩
                            rcases i with _ | i
                            · obtain rfl := Option.some.inj ho
                              have e : b4 = false := hun
                              subst e
                              have hBx := hB0 rfl
                              clear hB0 hD h4 hun
                              have q0 : b0 = true := hpre ⟨0, .phase⟩ (by simp) rfl
                              have q1 : b1 = true := hpre ⟨1, .phase⟩ (by simp) rfl
                              have q2 : b2 = true := hpre ⟨2, .phase⟩ (by simp) rfl
                              have q3 : b3 = true := hpre ⟨3, .data⟩ (by simp) rfl
                              have e3 : s3 = .agg #[.bool f1, .int .i64 f2, .int .i64 f3] := h3.at_ q3
                              subst e3
                              refine wpOp_of ho rfl fun K hK => ?_
                              clear ho hpre
                              obtain ⟨n, c0, c1, c2, f0, f1, f2⟩ := SF.later hBx
                              go_simp
                              exact hK _ _ ⟨b0, b1, b2, b3, true, s0, s1, s2, _, rfl, rfl, (fun h => by cases h), fun _ => ⟨_, hBx, rfl⟩, fun _ => ⟨q0, q1, q2, q3⟩, h0, h1, h2, Sl.mk rfl⟩
                            cases ho
                          case fin =>
                            intro listed a x hI hall
                            obtain ⟨b0, b1, b2, b3, b4, s0, s1, s2, s3, rfl, rfl, _, hD, _, _, _, _, _⟩ := hI
                            have hSet := hD (hall 4 (by simp))
                            clear hD hall
                            have SA := hSet.off SA NF.out.1
                            have SB := hSet.off SB NF.out.2.1
                            have SX := hSet.off SX NF.out.2.2.1
                            have SY := hSet.off SY NF.out.2.2.2.1
                            have SG := hSet.off SG NF.out.2.2.2.2.1
                            have SF := hSet.at_ SF
                            have hBo := hSet.below hBo NF.out.2.2.2.2.2
                            clear hSet
                            obtain ⟨z1, hz1⟩ : ∃ z, z = x := ⟨_, rfl⟩
                            subst hz1
                            go_wp2_with fail
                            refine wp_region_inv (by kernel_rfl) (by kernel_rfl) (UI (fun r0 r1 r2 r3 => ⟨#[Value.slice a0 len0 cap0, undef, Value.bool false, Value.int IntKind.i64 6, Value.pointer (some { block := y1.heap.size, off := 0 }), Value.pointer (some { block := y1.heap.size + 1, off := 0 }), Value.bool true, Value.pointer (some { block := y3.heap.size, off := 0 }), Value.pointer (some { block := y3.heap.size + 1, off := 0 }), Value.pointer (some { block := y5.heap.size, off := 0 }), Value.pointer (some { block := y5.heap.size + 1, off := 0 }), Value.pointer (some { block := y8.heap.size, off := 0 }), Value.pointer (some { block := y8.heap.size + 1, off := 0 }), Value.int IntKind.i64 n, Value.int IntKind.i64 m, Value.int IntKind.i64 1, Value.bool true, Value.slice a0 len0 cap0, Value.int IntKind.i64 ↑len0, Value.bool false, Value.tuple #[Value.int IntKind.i64 6, Value.agg #[Value.bool a, Value.int IntKind.i64 al, Value.int IntKind.i64 ah], Value.agg #[Value.bool b, Value.int IntKind.i64 bl, Value.int IntKind.i64 bh], Value.bool true], Value.slice a0 len0 cap0, Value.tuple #[Value.int IntKind.i64 6, Value.agg #[Value.bool a, Value.int IntKind.i64 al, Value.int IntKind.i64 ah], Value.agg #[Value.bool b, Value.int IntKind.i64 bl, Value.int IntKind.i64 bh], Value.bool true], Value.int IntKind.i64 6, Value.agg #[Value.bool a, Value.int IntKind.i64 al, Value.int IntKind.i64 ah], Value.agg #[Value.bool b, Value.int IntKind.i64 bl, Value.int IntKind.i64 bh], Value.bool true, Value.tuple #[Value.agg #[Value.bool j1, Value.int IntKind.i64 j2, Value.int IntKind.i64 j3], Value.agg #[Value.bool i1, Value.int IntKind.i64 i2, Value.int IntKind.i64 i3]], Value.int IntKind.i64 6, Value.agg #[Value.bool a, Value.int IntKind.i64 al, Value.int IntKind.i64 ah], Value.agg #[Value.bool b, Value.int IntKind.i64 bl, Value.int IntKind.i64 bh], Value.bool true, Value.tuple #[Value.agg #[Value.bool j1, Value.int IntKind.i64 j2, Value.int IntKind.i64 j3], Value.agg #[Value.bool i1, Value.int IntKind.i64 i2, Value.int IntKind.i64 i3]], Value.agg #[Value.bool j1, Value.int IntKind.i64 j2, Value.int IntKind.i64 j3], Value.agg #[Value.bool i1, Value.int IntKind.i64 i2, Value.int IntKind.i64 i3], Value.tuple #[Value.agg #[Value.bool j1, Value.int IntKind.i64 j2, Value.int IntKind.i64 j3], Value.agg #[Value.bool i1, Value.int IntKind.i64 i2, Value.int IntKind.i64 i3]], Value.int IntKind.i64 6, Value.agg #[Value.bool a, Value.int IntKind.i64 al, Value.int IntKind.i64 ah], Value.agg #[Value.bool b, Value.int IntKind.i64 bl, Value.int IntKind.i64 bh], Value.bool true, Value.tuple #[Value.agg #[Value.bool j1, Value.int IntKind.i64 j2, Value.int IntKind.i64 j3], Value.agg #[Value.bool i1, Value.int IntKind.i64 i2, Value.int IntKind.i64 i3]], Value.agg #[Value.bool j1, Value.int IntKind.i64 j2, Value.int IntKind.i64 j3], Value.agg #[Value.bool i1, Value.int IntKind.i64 i2, Value.int IntKind.i64 i3], Value.agg #[Value.bool j1, Value.int IntKind.i64 j2, Value.int IntKind.i64 j3], Value.agg #[Value.bool j1, Value.int IntKind.i64 j2, Value.int IntKind.i64 j3], Value.bool false, Value.bool false, Value.agg #[Value.bool i1, Value.int IntKind.i64 i2, Value.int IntKind.i64 i3], Value.agg #[Value.bool i1, Value.int IntKind.i64 i2, Value.int IntKind.i64 i3], Value.bool false, Value.bool false, Value.bool false, Value.agg #[Value.bool a, Value.int IntKind.i64 al, Value.int IntKind.i64 ah], Value.bool true, Value.bool false, Value.bool false, Value.bool false, Value.agg #[Value.bool b, Value.int IntKind.i64 bl, Value.int IntKind.i64 bh], Value.bool true, Value.bool false, Value.bool false, Value.bool false, Value.int IntKind.i64 6, Value.bool true, Value.bool true, Value.int IntKind.i64 6, Value.bool false, Value.bool false, Value.bool false, undef, undef, undef, undef, undef, undef, undef, undef, Value.agg #[Value.bool false, Value.int IntKind.i64 0, Value.int IntKind.i64 0], Value.agg #[Value.bool false, Value.int IntKind.i64 0, Value.int IntKind.i64 0], Value.int IntKind.i64 n, Value.bool true, u81, u82, Value.int IntKind.i64 m, Value.bool true, u85, u86, Value.tuple #[Value.int IntKind.i64 1, Value.bool true], Value.int IntKind.i64 6, Value.int IntKind.i64 n, Value.int IntKind.i64 m, Value.tuple #[Value.int IntKind.i64 1, Value.bool true], Value.int IntKind.i64 1, Value.bool true, Value.agg #[Value.bool a, Value.int IntKind.i64 al, Value.int IntKind.i64 ah], Value.int IntKind.i64 n, Value.bool true, Value.bool true, Value.agg #[Value.bool b, Value.int IntKind.i64 bl, Value.int IntKind.i64 bh], Value.int IntKind.i64 m, Value.bool true, Value.bool true, Value.bool true, Value.int IntKind.i64 1, Value.bool true, Value.bool true, Value.bool true, Value.bool true, s0, s1, s2, s3, r0, r1, r2, r3, undef, undef, undef, undef, undef, undef, undef, undef], []⟩) z1 (.agg #[.bool g, .int .i64 gl, .int .i64 gh]) (.int .i64 m) (.agg #[.bool true, .int .i64 m, .int .i64 m]) (.agg #[.bool g1, .int .i64 g2, .int .i64 g3]) (SetSp z1 (y8.heap.size + 1) g1 g2 g3)) ?start ?step ?fin
                            case start => exact ⟨false, false, false, false, false, _, _, _, _, rfl, rfl, fun _ => Below.drew (Below.refl _ _), (fun h => by cases h), (fun h => by cases h), Sl.no, Sl.no, Sl.no, Sl.no⟩
                            case step =>
                              intro listed a x hI i o ho hun hpre
                              obtain ⟨b0, b1, b2, b3, b4, s0, s1, s2, s3, rfl, rfl, hB0, hD, h4, h0, h1, h2, h3⟩ := hI
                              rcases i with _ | i
                              · obtain rfl := Option.some.inj ho
                                have e : b0 = false := hun
                                subst e
                                obtain rfl : b4 = false := by
                                  cases b4
                                  · rfl
                                  · have := h4 rfl; simp at this
                                have hBx := hB0 rfl
                                clear hB0 hD h4 hun
                                refine wpOp_of ho rfl fun K hK => ?_
                                clear ho hpre
                                obtain ⟨n, c0, c1, c2, f0, f1, f2⟩ := SG.later hBx
                                go_simp
                                exact hK _ _ ⟨true, b1, b2, b3, false, _, s1, s2, s3, rfl, rfl, fun _ => hBx, (fun h => by cases h), (fun h => by cases h), Sl.mk rfl, h1, h2, h3⟩
                              rcases i with _ | i
                              · obtain rfl := Option.some.inj ho
                                have e : b1 = false := hun
                                subst e
                                obtain rfl : b4 = false := by
                                  cases b4
                                  · rfl
                                  · have := h4 rfl; simp at this
                                have hBx := hB0 rfl
                                clear hB0 hD h4 hun
                                refine wpOp_of ho rfl fun K hK => ?_
                                clear ho hpre
                                go_simp
                                exact hK _ _ ⟨b0, true, b2, b3, false, s0, _, s2, s3, rfl, rfl, fun _ => hBx, (fun h => by cases h), (fun h => by cases h), h0, Sl.mk rfl, h2, h3⟩
                              rcases i with _ | i
                              · obtain rfl := Option.some.inj ho
                                have e : b2 = false := hun
                                subst e
                                obtain rfl : b4 = false := by
                                  cases b4
                                  · rfl
                                  · have := h4 rfl; simp at this
                                have hBx := hB0 rfl
                                clear hB0 hD h4 hun
                                have q1 : b1 = true := hpre ⟨1, .data⟩ (by simp) rfl
                                have e1 : s1 = .int .i64 m := h1.at_ q1
                                subst e1
                                refine wpOp_of ho rfl fun K hK => ?_
                                clear ho hpre
                                go_simp
                                refine (ofw_at hmw.out _).mono ?_
                                rintro e w' ⟨rfl, hbx⟩
                                exact hK _ _ ⟨b0, b1, true, b3, false, s0, _, _, s3, rfl, rfl, fun _ => hBx.trans (hbx.mono hBx.size), (fun h => by cases h), (fun h => by cases h), h0, h1, Sl.mk rfl, h3⟩
                              rcases i with _ | i
                              · obtain rfl := Option.some.inj ho
                                have e : b3 = false := hun
                                subst e
                                obtain rfl : b4 = false := by
                                  cases b4
                                  · rfl
                                  · have := h4 rfl; simp at this
                                have hBx := hB0 rfl
                                clear hB0 hD h4 hun
                                have q0 : b0 = true := hpre ⟨0, .data⟩ (by simp) rfl
                                have e0 : s0 = .agg #[.bool g, .int .i64 gl, .int .i64 gh] := h0.at_ q0
                                subst e0
                                have q2 : b2 = true := hpre ⟨2, .data⟩ (by simp) rfl
                                have e2 : s2 = .agg #[.bool true, .int .i64 m, .int .i64 m] := h2.at_ q2
                                subst e2
                                refine wpOp_of ho rfl fun K hK => ?_
                                clear ho hpre
                                go_simp
                                refine (join_at hJ2.out _).mono ?_
                                rintro e w' ⟨rfl, hbx⟩
                                exact hK _ _ ⟨b0, b1, b2, true, false, _, s1, _, _, rfl, rfl, fun _ => hBx.trans (hbx.mono hBx.size), (fun h => by cases h), (fun h => by cases h), h0, h1, h2, Sl.mk rfl⟩
                              rcases i with _ | i
                              · obtain rfl := Option.some.inj ho
                                have e : b4 = false := hun
                                subst e
                                have hBx := hB0 rfl
                                clear hB0 hD h4 hun
                                have q0 : b0 = true := hpre ⟨0, .phase⟩ (by simp) rfl
                                have q1 : b1 = true := hpre ⟨1, .phase⟩ (by simp) rfl
                                have q2 : b2 = true := hpre ⟨2, .phase⟩ (by simp) rfl
                                have q3 : b3 = true := hpre ⟨3, .data⟩ (by simp) rfl
                                have e3 : s3 = .agg #[.bool g1, .int .i64 g2, .int .i64 g3] := h3.at_ q3
                                subst e3
                                refine wpOp_of ho rfl fun K hK => ?_
                                clear ho hpre
                                obtain ⟨n, c0, c1, c2, f0, f1, f2⟩ := SG.later hBx
                                go_simp
                                exact hK _ _ ⟨b0, b1, b2, b3, true, s0, s1, s2, _, rfl, rfl, (fun h => by cases h), fun _ => ⟨_, hBx, rfl⟩, fun _ => ⟨q0, q1, q2, q3⟩, h0, h1, h2, Sl.mk rfl⟩
                              cases ho
                            case fin =>
                              intro listed a x hI hall
                              obtain ⟨b0, b1, b2, b3, b4, s0, s1, s2, s3, rfl, rfl, _, hD, _, _, _, _, _⟩ := hI
                              have hSet := hD (hall 4 (by simp))
                              clear hD hall
                              have SA := hSet.off SA NG.out.1
                              have SB := hSet.off SB NG.out.2.1
                              have SX := hSet.off SX NG.out.2.2.1
                              have SY := hSet.off SY NG.out.2.2.2.1
                              have SF := hSet.off SF NG.out.2.2.2.2.1
                              have SG := hSet.at_ SG
                              have hB := hSet.below hBo NG.out.2.2.2.2.2
                              clear hSet
                              go_wp2_with fail
                              go_roundw
                              case rel => exact ⟨m + 1, f1, f2, f3, g1, g2, g3, by omega, by omega, by go_num, HN1.out, HN2.out, hB, SA, SB, SX, SY, SF, SG⟩
                              case measure => simp [intOf]; omega
                · have HN1 : Hid (Hull (SeenD (fun p q => doF 6 p q = oneF yes) (fun p _ => p) a al ah b bl bh (n + 1) (-16)) (f, fl, fh)) := HF.out.congr (seenD_row (by omega))
                  have HN2 : Hid (Hull (SeenD (fun p q => doF 6 p q = oneF yes) (fun _ q => q) a al ah b bl bh (n + 1) (-16)) (g, gl, gh)) := HG.out.congr (seenD_row (by omega))
                  go_wp2_with fail
                  go_roundw
                  case rel => exact ⟨n + 1, f, fl, fh, g, gl, gh, by omega, by omega, by go_num, HN1.out, HN2.out, hB, SA, SB, SX, SY, SF, SG⟩
                  case measure => simp [intOf]; omega
            · obtain rfl : n = 16 := by omega
              have he1 := when_fst (show (6 : Int) = 5 ∨ (6 : Int) = 6 from .inr rfl) HW.out HO0.out HO1.out HF.out
              have he2 := when_snd (show (6 : Int) = 5 ∨ (6 : Int) = 6 from .inr rfl) HW.out HO0.out HO1.out HG.out
              simp only [Prod.mk.injEq] at he1 he2
              obtain ⟨rfl, rfl, rfl⟩ := he1
              obtain ⟨rfl, rfl, rfl⟩ := he2
              clear n0 n1 hlt HF HG HW
              obtain ⟨nX, c0X, c1X, c2X, f0X, f1X, f2X⟩ := id SX
              obtain ⟨nY, c0Y, c1Y, c2Y, f0Y, f1Y, f2Y⟩ := id SY
              obtain ⟨nF, c0F, c1F, c2F, f0F, f1F, f2F⟩ := id SF
              obtain ⟨nG, c0G, c1G, c2G, f0G, f1G, f2G⟩ := id SG
              go_wp2_with fail
              go_ret
              exact ⟨rfl, by assumption⟩
      · have e5 : ¬ op = 5 := by omega
        have e6 : ¬ op = 6 := by omega
        have e5' : (op == 5) = false := by simp [e5]
        have e6' : (op == 6) = false := by simp [e6]
        have e5d : decide (op = 5) = false := by simp [e5]
        have e6d : decide (op = 6) = false := by simp [e6]
        have e5n : (op != 5) = true := by simp [e5]
        have e6n : (op != 6) = true := by simp [e6]
        clear hop
        obtain ⟨nX, c0X, c1X, c2X, f0X, f1X, f2X⟩ := id SX
        obtain ⟨nY, c0Y, c1Y, c2Y, f0Y, f1Y, f2Y⟩ := id SY
        obtain ⟨nWX, c0WX, c1WX, c2WX, f0WX, f1WX, f2WX⟩ := id SWX
        obtain ⟨nWY, c0WY, c1WY, c2WY, f0WY, f1WY, f2WY⟩ := id SWY
        go_wp2_with fail
        go_ret
        exact ⟨rfl, by go_grown⟩

end Go.Proofs.Ytlnfjjciilieeaa
