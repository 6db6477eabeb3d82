/-
  The contract of the model's SpanWhen: asked whether one is less.
-/
import Derived.Test.YtlnfjjciilieeaaWhenT
namespace Go.Proofs.Ytlnfjjciilieeaa
open Go.RowKit
set_option linter.unusedVariables false
set_option linter.unusedSimpArgs false

set_option maxHeartbeats 2000000 in
theorem when_spec_5t (al ah bl bh : Int) (w : World) (hbo : bothF true al ah true bl bh = true) :
    Calls Try.prog 11 #[.int .i64 5, .agg #[.bool true, .int .i64 al, .int .i64 ah], .agg #[.bool true, .int .i64 bl, .int .i64 bh], .bool true] w fun e w' => WhRet 5 true al ah true bl bh true w e w' := by
  obtain ⟨X, hXe⟩ : ∃ X : Sp, Hid (X = mkF al (min ah (bh - 1))) := ⟨_, rfl⟩
  obtain ⟨Y, hYe⟩ : ∃ Y : Sp, Hid (Y = mkF (max bl (al + 1)) bh) := ⟨_, rfl⟩
  have HF : Hid (WhenIs 5 true al ah true bl bh true X Y ∧ (X.1 = false ∨ Y.1 = false → WhenIs 5 true al ah true bl bh true noSp noSp)) := when_fin hbo (by omega) (hXe.out.trans (by simp [whenX])) (hYe.out.trans (by simp [whenY]))
  have HM : Hid (meetF true al ah true bl bh = mkF (max al bl) (min ah bh)) := meet_mk hbo rfl rfl
  have HK : Hid (okF true al ah = true ∧ okF true bl bh = true) := by simp [bothF] at hbo; exact hbo
  obtain ⟨_, _, ha1, ha2, haa, hb1, hb2, hbb⟩ := both_t hbo
  clear hbo
  go_enter Try.func11, Try.ntmps11
  go_wp2_with fail
  refine (l1Some_any _ _ _ _).mono ?_
  rintro e w1 ⟨rfl, hr1⟩
  rw [HK.out.1]
  have sa1 : Sp3 w1 w.heap.size true al ah := Sp3.later ⟨by go_size, by simp [go_sem], by simp [go_sem], by simp [go_sem], by simp [go_sem], by simp [go_sem], by simp [go_sem]⟩ hr1
  have sb1 : Sp3 w1 (w.heap.size + 1) true bl bh := Sp3.later ⟨by go_size, by simp [go_sem], by simp [go_sem], by simp [go_sem], by simp [go_sem], by simp [go_sem], by simp [go_sem]⟩ hr1
  have ra1 : Sp3 w1 (w.heap.size + 1 + 1) false 0 0 := Sp3.later ⟨by go_size, by simp [go_sem], by simp [go_sem], by simp [go_sem], by simp [go_sem], by simp [go_sem], by simp [go_sem]⟩ hr1
  have rb1 : Sp3 w1 (w.heap.size + 1 + 1 + 1) false 0 0 := Sp3.later ⟨by go_size, by simp [go_sem], by simp [go_sem], by simp [go_sem], by simp [go_sem], by simp [go_sem], by simp [go_sem]⟩ hr1
  have hB1 : Below w.heap.size w w1 := Below.trans (by go_grown) (hr1.mono (by go_size))
  clear hr1
  obtain ⟨nB, cB0, cB1, cB2, fB0, fB1, fB2⟩ := id sb1
  go_wp2_with fail
  refine (l1Some_any _ _ _ _).mono ?_
  rintro e w2 ⟨rfl, hr2⟩
  rw [HK.out.2]
  have sa2 := sa1.later hr2
  have sb2 := sb1.later hr2
  have ra2 := ra1.later hr2
  have rb2 := rb1.later hr2
  have hB2 := hB1.trans (hr2.mono hB1.size)
  clear sa1 sb1 ra1 rb1 hB1 hr2 nB cB0 cB1 cB2 fB0 fB1 fB2
  obtain ⟨nA, cA0, cA1, cA2, fA0, fA1, fA2⟩ := id sa2
  obtain ⟨nB, cB0, cB1, cB2, fB0, fB1, fB2⟩ := id sb2
  go_wp2_with fail
  refine (not_spec _ _ _ _ _ _ _ ha1 ha2 haa).mono ?_
  rintro e w3 ⟨hs3, hr3⟩
  generalize hn3 : notF al ah bl bh = X1 at hs3
  have HN3 : Hid (notF al ah bl bh = X1) := hn3
  clear hn3
  obtain ⟨a3, l3, u3, hx3, rfl⟩ := hs3.out
  have sa3 := sa2.later hr3
  have sb3 := sb2.later hr3
  have ra3 := ra2.later hr3
  have rb3 := rb2.later hr3
  have hB3 := hB2.trans (hr3.mono hB2.size)
  clear sa2 sb2 ra2 rb2 hB2 hr3 nA cA0 cA1 cA2 fA0 fA1 fA2 nB cB0 cB1 cB2 fB0 fB1 fB2 hs3
  obtain ⟨nA, cA0, cA1, cA2, fA0, fA1, fA2⟩ := id sa3
  obtain ⟨nB, cB0, cB1, cB2, fB0, fB1, fB2⟩ := id sb3
  go_wp2_with fail
  refine (not_spec _ _ _ _ _ _ _ hb1 hb2 hbb).mono ?_
  rintro e w4 ⟨hs4, hr4⟩
  generalize hn4 : notF bl bh al ah = Y1 at hs4
  have HN4 : Hid (notF bl bh al ah = Y1) := hn4
  clear hn4
  obtain ⟨a4, l4, u4, hx4, rfl⟩ := hs4.out
  have hg3 : w.heap.size + 1 + 1 + 1 < w3.heap.size := rb3.lt
  have hQ : QSt w (w4.alloc (.cells #[.bool a4, .int .i64 l4, .int .i64 u4] 24)) w3.heap.size w4.heap.size al ah bl bh (a3, l3, u3) (a4, l4, u4) := by
    have sg : Sp3 w4 w3.heap.size a3 l3 u3 := Sp3.later ⟨by go_size, by simp [go_sem], by simp [go_sem], by simp [go_sem], by simp [go_sem], by simp [go_sem], by simp [go_sem]⟩ hr4
    exact ⟨(Below.trans (hB3.alloc hB3.size _) (hr4.mono (by simp; have := hB3.size; omega))).alloc (by have := hr4.size; have := hB3.size; simp at *; omega) _, hg3, sg.lt, ((sa3.alloc _).later hr4).alloc _, ((sb3.alloc _).later hr4).alloc _, ((ra3.alloc _).later hr4).alloc _, ((rb3.alloc _).later hr4).alloc _, sg.alloc _, ⟨by go_size, by simp [go_sem], by simp [go_sem], by simp [go_sem], by simp [go_sem], by simp [go_sem], by simp [go_sem]⟩⟩
  clear sa3 sb3 ra3 rb3 hB3 hr4 nA cA0 cA1 cA2 fA0 fA1 fA2 nB cB0 cB1 cB2 fB0 fB1 fB2 hs4
  have hg4 := hQ.h0
  generalize w3.heap.size = g at hQ hg3 hg4 ⊢
  obtain ⟨nA, cA0, cA1, cA2, fA0, fA1, fA2⟩ := id hQ.sa
  obtain ⟨nB, cB0, cB1, cB2, fB0, fB1, fB2⟩ := id hQ.sb
  obtain ⟨n3, c30, c31, c32, f30, f31, f32⟩ := id hQ.s1
  obtain ⟨n4, c40, c41, c42, f40, f41, f42⟩ := id hQ.s2
  go_wp2_with fail
  all_goals
    refine (l1Of_any _ _ _).mono ?_
    rintro e w6 ⟨hs6, hr6⟩
    replace hs6 : RetSp X e := by rw [hXe.out]; exact retsp_mk hs6 (by omega) (by omega)
    obtain ⟨a6, l6, u6, hx6, rfl⟩ := hs6.out
    have hQ6 := hQ.later hr6
    clear hQ hr6 hs6
    clear nA cA0 cA1 cA2 fA0 fA1 fA2 nB cB0 cB1 cB2 fB0 fB1 fB2 n3 c30 c31 c32 f30 f31 f32 n4 c40 c41 c42 f40 f41 f42
    obtain ⟨nA, cA0, cA1, cA2, fA0, fA1, fA2⟩ := id hQ6.sa
    obtain ⟨nB, cB0, cB1, cB2, fB0, fB1, fB2⟩ := id hQ6.sb
    obtain ⟨n3, c30, c31, c32, f30, f31, f32⟩ := id hQ6.s1
    obtain ⟨n4, c40, c41, c42, f40, f41, f42⟩ := id hQ6.s2
    have hgh : ¬ g = w4.heap.size := by omega
    have hgh' : ¬ w4.heap.size = g := by omega
    go_wp2_with fail
    all_goals
      refine (l1Of_any _ _ _).mono ?_
      rintro e w7 ⟨hs7, hr7⟩
      replace hs7 : RetSp Y e := by rw [hYe.out]; exact retsp_mk hs7 (by omega) (by omega)
      obtain ⟨a7, l7, u7, hx7, rfl⟩ := hs7.out
      have hQ7 := hQ6.setA.later hr7
      have hQ8 := hQ7.setB (a := a7) (l := l7) (u := u7)
      obtain rfl : X = (a6, l6, u6) := hx6.out
      obtain rfl : Y = (a7, l7, u7) := hx7.out
      clear hQ6 hr7 hs7 hx6 hx7 hXe hYe HN3 HN4 hx3 hx4
      clear nA cA0 cA1 cA2 fA0 fA1 fA2 nB cB0 cB1 cB2 fB0 fB1 fB2 n3 c30 c31 c32 f30 f31 f32 n4 c40 c41 c42 f40 f41 f42
      obtain ⟨n4, c40, c41, c42, f40, f41, f42⟩ := id hQ7.s2
      clear hQ7
      go_upto_region 14 with fail
      generalize (((w7.setCell ⟨w4.heap.size, 0, none⟩ (.bool a7)).setCell ⟨w4.heap.size, 1, none⟩ (.int .i64 l7)).setCell ⟨w4.heap.size, 2, none⟩ (.int .i64 u7)) = x at hQ8 ⊢
      clear n4 c40 c41 c42 f40 f41 f42
      obtain ⟨n1, c10, c11, c12, f10, f11, f12⟩ := id hQ8.r1
      obtain ⟨n2, c20, c21, c22, f20, f21, f22⟩ := id hQ8.r2
      obtain ⟨n3, c30, c31, c32, f30, f31, f32⟩ := id hQ8.s1
      obtain ⟨n4, c40, c41, c42, f40, f41, f42⟩ := id hQ8.s2
      have hB := hQ8.bel
      cases a6
      · have hno := HF.out.2 (.inl rfl)
        have HNO : Hid _ := hno
        clear hno HF
        go_wp2_with fail
        refine bodyPost_ret (v := .tuple #[.agg #[.bool false, .int .i64 0, .int .i64 0], .agg #[.bool false, .int .i64 0, .int .i64 0]]) (by simp [results, Try.results11, go_sem, n1, n2, c10, c11, c12, c20, c21, c22]) rfl ⟨noSp, noSp, HNO.out, rfl, ?_⟩
        exact (((((hB.setCell (by simp; omega) _).setCell (by simp; omega) _).setCell (by simp; omega) _).setCell (by simp; omega) _).setCell (by simp; omega) _).setCell (by simp; omega) _
      · cases a7
        · have hno := HF.out.2 (.inr rfl)
          have HNO : Hid _ := hno
          clear hno HF
          go_wp2_with fail
          refine bodyPost_ret (v := .tuple #[.agg #[.bool false, .int .i64 0, .int .i64 0], .agg #[.bool false, .int .i64 0, .int .i64 0]]) (by simp [results, Try.results11, go_sem, n1, n2, c10, c11, c12, c20, c21, c22]) rfl ⟨noSp, noSp, HNO.out, rfl, ?_⟩
          exact (((((hB.setCell (by simp; omega) _).setCell (by simp; omega) _).setCell (by simp; omega) _).setCell (by simp; omega) _).setCell (by simp; omega) _).setCell (by simp; omega) _
        · have hyes := HF.out.1
          have Htrue : Hid _ := hyes
          clear hyes HF
          go_wp2_with fail
          go_region
          all_goals
            go_wp2_with fail
            refine bodyPost_ret (v := .tuple #[.agg #[.bool true, .int .i64 l6, .int .i64 u6], .agg #[.bool true, .int .i64 l7, .int .i64 u7]]) (by simp [results, Try.results11, go_sem, n1, n2, c10, c11, c12, c20, c21, c22]) rfl ⟨(true, l6, u6), (true, l7, u7), Htrue.out, rfl, ?_⟩
            exact Below.drew ((((((hB.setCell (by simp; omega) _).setCell (by simp; omega) _).setCell (by simp; omega) _).setCell (by simp; omega) _).setCell (by simp; omega) _).setCell (by simp; omega) _)

end Go.Proofs.Ytlnfjjciilieeaa
