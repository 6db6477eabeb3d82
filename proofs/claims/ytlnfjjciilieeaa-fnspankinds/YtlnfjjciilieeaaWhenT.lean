/-
  The contract of the model's SpanWhen: where both spans are not none, and else.
-/
import Derived.Test.YtlnfjjciilieeaaWhenS
namespace Go.Proofs.Ytlnfjjciilieeaa
open Go.RowKit
set_option linter.unusedVariables false
set_option linter.unusedSimpArgs false

/-- the world of the model's SpanWhen -/
structure QSt (w x : World) (g h : Nat) (al ah bl bh : Int) (s t : Sp) : Prop where
  bel : Below w.heap.size w x
  g0 : w.heap.size + 1 + 1 + 1 < g
  h0 : g < h
  sa : Sp3 x w.heap.size true al ah
  sb : Sp3 x (w.heap.size + 1) true bl bh
  r1 : Sp3 x (w.heap.size + 1 + 1) false 0 0
  r2 : Sp3 x (w.heap.size + 1 + 1 + 1) false 0 0
  s1 : Sp3 x g s.1 s.2.1 s.2.2
  s2 : Sp3 x h t.1 t.2.1 t.2.2
theorem QSt.later {w x y : World} {g h : Nat} {al ah bl bh : Int} {s t : Sp} (q : QSt w x g h al ah bl bh s t) (hb : Below x.heap.size x y) : QSt w y g h al ah bl bh s t :=
  ⟨q.bel.trans (hb.mono q.bel.size), q.g0, q.h0, q.sa.later hb, q.sb.later hb, q.r1.later hb, q.r2.later hb, q.s1.later hb, q.s2.later hb⟩
theorem QSt.setA {w x : World} {g h : Nat} {al ah bl bh : Int} {s t : Sp} {a : Bool} {l u : Int} (q : QSt w x g h al ah bl bh s t) : QSt w (((x.setCell ⟨g, 0, none⟩ (.bool a)).setCell ⟨g, 1, none⟩ (.int .i64 l)).setCell ⟨g, 2, none⟩ (.int .i64 u)) g h al ah bl bh (a, l, u) t := by
  have h1 := q.g0
  have h2 := q.h0
  have n : ∀ m, m ≠ g → ∀ {b : Bool} {k v : Int}, Sp3 x m b k v → Sp3 (((x.setCell ⟨g, 0, none⟩ (.bool a)).setCell ⟨g, 1, none⟩ (.int .i64 l)).setCell ⟨g, 2, none⟩ (.int .i64 u)) m b k v := fun m hm b k v h => ((h.off hm).off hm).off hm
  exact ⟨((q.bel.setCell (by simp; omega) _).setCell (by simp; omega) _).setCell (by simp; omega) _, h1, h2, n _ (by omega) q.sa, n _ (by omega) q.sb, n _ (by omega) q.r1, n _ (by omega) q.r2, q.s1.set, n _ (by omega) q.s2⟩
theorem QSt.setB {w x : World} {g h : Nat} {al ah bl bh : Int} {s t : Sp} {a : Bool} {l u : Int} (q : QSt w x g h al ah bl bh s t) : QSt w (((x.setCell ⟨h, 0, none⟩ (.bool a)).setCell ⟨h, 1, none⟩ (.int .i64 l)).setCell ⟨h, 2, none⟩ (.int .i64 u)) g h al ah bl bh s (a, l, u) := by
  have h1 := q.g0
  have h2 := q.h0
  have n : ∀ m, m ≠ h → ∀ {b : Bool} {k v : Int}, Sp3 x m b k v → Sp3 (((x.setCell ⟨h, 0, none⟩ (.bool a)).setCell ⟨h, 1, none⟩ (.int .i64 l)).setCell ⟨h, 2, none⟩ (.int .i64 u)) m b k v := fun m hm b k v h => ((h.off hm).off hm).off hm
  exact ⟨((q.bel.setCell (by simp; omega) _).setCell (by simp; omega) _).setCell (by simp; omega) _, h1, h2, n _ (by omega) q.sa, n _ (by omega) q.sb, n _ (by omega) q.r1, n _ (by omega) q.r2, n _ (by omega) q.s1, q.s2.set⟩

/-- what both answers are: where one of the two is none, none -/
theorem when_fin {op al ah bl bh : Int} {yes : Bool} {X Y : Sp} (hbo : bothF true al ah true bl bh = true) (ho : op = 5 ∨ op = 6) (hX : X = whenX op al ah bl bh yes) (hY : Y = whenY op al ah bl bh yes) :
    WhenIs op true al ah true bl bh yes X Y ∧ (X.1 = false ∨ Y.1 = false → WhenIs op true al ah true bl bh yes noSp noSp) := by
  obtain ⟨_, _, ha1, ha2, haa, hb1, hb2, hbb⟩ := both_t hbo
  have h1 : Hull (FstT op al ah bl bh yes) X := hX ▸ whenX_hull ho haa hbb
  have h2 : Hull (SndT op al ah bl bh yes) Y := hY ▸ whenY_hull ho haa hbb
  have w1 : WhenIs op true al ah true bl bh yes X Y := by
    refine ⟨fun h => ?_, fun _ _ => ⟨h1, h2⟩⟩
    rcases h with h | h
    · simp [hbo] at h
    · omega
  refine ⟨w1, fun h => ?_⟩
  obtain ⟨e1, e2⟩ := when_both h1 h2 h
  rw [e1, e2] at w1
  exact w1

set_option maxHeartbeats 2000000 in
theorem when_spec_6f (al ah bl bh : Int) (w : World) (hbo : bothF true al ah true bl bh = true) :
    Calls Try.prog 11 #[.int .i64 6, .agg #[.bool true, .int .i64 al, .int .i64 ah], .agg #[.bool true, .int .i64 bl, .int .i64 bh], .bool false] w fun e w' => WhRet 6 true al ah true bl bh false w e w' := by
  obtain ⟨X, hXe⟩ : ∃ X : Sp, Hid (X = notF al ah bl bh) := ⟨_, rfl⟩
  obtain ⟨Y, hYe⟩ : ∃ Y : Sp, Hid (Y = notF bl bh al ah) := ⟨_, rfl⟩
  have HF : Hid (WhenIs 6 true al ah true bl bh false X Y ∧ (X.1 = false ∨ Y.1 = false → WhenIs 6 true al ah true bl bh false noSp noSp)) := when_fin hbo (by omega) (hXe.out.trans (by simp [whenX])) (hYe.out.trans (by simp [whenY]))
  have HM : Hid (meetF true al ah true bl bh = mkF (max al bl) (min ah bh)) := meet_mk hbo rfl rfl
  have HK : Hid (okF true al ah = true ∧ okF true bl bh = true) := by simp [bothF] at hbo; exact hbo
  obtain ⟨_, _, ha1, ha2, haa, hb1, hb2, hbb⟩ := both_t hbo
  clear hbo
  go_enter Try.func11, Try.ntmps11
  go_wp2_with fail
  refine (l1Some_any _ _ _ _).mono ?_
  rintro e w1 ⟨rfl, hr1⟩
  rw [HK.out.1]
  have sa1 : Sp3 w1 w.heap.size true al ah := Sp3.later ⟨by go_size, by simp [go_sem], by simp [go_sem], by simp [go_sem], by simp [go_sem], by simp [go_sem], by simp [go_sem]⟩ hr1
  have sb1 : Sp3 w1 (w.heap.size + 1) true bl bh := Sp3.later ⟨by go_size, by simp [go_sem], by simp [go_sem], by simp [go_sem], by simp [go_sem], by simp [go_sem], by simp [go_sem]⟩ hr1
  have ra1 : Sp3 w1 (w.heap.size + 1 + 1) false 0 0 := Sp3.later ⟨by go_size, by simp [go_sem], by simp [go_sem], by simp [go_sem], by simp [go_sem], by simp [go_sem], by simp [go_sem]⟩ hr1
  have rb1 : Sp3 w1 (w.heap.size + 1 + 1 + 1) false 0 0 := Sp3.later ⟨by go_size, by simp [go_sem], by simp [go_sem], by simp [go_sem], by simp [go_sem], by simp [go_sem], by simp [go_sem]⟩ hr1
  have hB1 : Below w.heap.size w w1 := Below.trans (by go_grown) (hr1.mono (by go_size))
  clear hr1
  obtain ⟨nB, cB0, cB1, cB2, fB0, fB1, fB2⟩ := id sb1
  go_wp2_with fail
  refine (l1Some_any _ _ _ _).mono ?_
  rintro e w2 ⟨rfl, hr2⟩
  rw [HK.out.2]
  have sa2 := sa1.later hr2
  have sb2 := sb1.later hr2
  have ra2 := ra1.later hr2
  have rb2 := rb1.later hr2
  have hB2 := hB1.trans (hr2.mono hB1.size)
  clear sa1 sb1 ra1 rb1 hB1 hr2 nB cB0 cB1 cB2 fB0 fB1 fB2
  obtain ⟨nA, cA0, cA1, cA2, fA0, fA1, fA2⟩ := id sa2
  obtain ⟨nB, cB0, cB1, cB2, fB0, fB1, fB2⟩ := id sb2
  go_wp2_with fail
  refine (not_spec _ _ _ _ _ _ _ ha1 ha2 haa).mono ?_
  rintro e w3 ⟨hs3, hr3⟩
  generalize hn3 : notF al ah bl bh = X1 at hs3
  have HN3 : Hid (notF al ah bl bh = X1) := hn3
  clear hn3
  obtain ⟨a3, l3, u3, hx3, rfl⟩ := hs3.out
  have sa3 := sa2.later hr3
  have sb3 := sb2.later hr3
  have ra3 := ra2.later hr3
  have rb3 := rb2.later hr3
  have hB3 := hB2.trans (hr3.mono hB2.size)
  clear sa2 sb2 ra2 rb2 hB2 hr3 nA cA0 cA1 cA2 fA0 fA1 fA2 nB cB0 cB1 cB2 fB0 fB1 fB2 hs3
  obtain ⟨nA, cA0, cA1, cA2, fA0, fA1, fA2⟩ := id sa3
  obtain ⟨nB, cB0, cB1, cB2, fB0, fB1, fB2⟩ := id sb3
  go_wp2_with fail
  refine (not_spec _ _ _ _ _ _ _ hb1 hb2 hbb).mono ?_
  rintro e w4 ⟨hs4, hr4⟩
  generalize hn4 : notF bl bh al ah = Y1 at hs4
  have HN4 : Hid (notF bl bh al ah = Y1) := hn4
  clear hn4
  obtain ⟨a4, l4, u4, hx4, rfl⟩ := hs4.out
  have hg3 : w.heap.size + 1 + 1 + 1 < w3.heap.size := rb3.lt
  have hQ : QSt w (w4.alloc (.cells #[.bool a4, .int .i64 l4, .int .i64 u4] 24)) w3.heap.size w4.heap.size al ah bl bh (a3, l3, u3) (a4, l4, u4) := by
    have sg : Sp3 w4 w3.heap.size a3 l3 u3 := Sp3.later ⟨by go_size, by simp [go_sem], by simp [go_sem], by simp [go_sem], by simp [go_sem], by simp [go_sem], by simp [go_sem]⟩ hr4
    exact ⟨(Below.trans (hB3.alloc hB3.size _) (hr4.mono (by simp; have := hB3.size; omega))).alloc (by have := hr4.size; have := hB3.size; simp at *; omega) _, hg3, sg.lt, ((sa3.alloc _).later hr4).alloc _, ((sb3.alloc _).later hr4).alloc _, ((ra3.alloc _).later hr4).alloc _, ((rb3.alloc _).later hr4).alloc _, sg.alloc _, ⟨by go_size, by simp [go_sem], by simp [go_sem], by simp [go_sem], by simp [go_sem], by simp [go_sem], by simp [go_sem]⟩⟩
  clear sa3 sb3 ra3 rb3 hB3 hr4 nA cA0 cA1 cA2 fA0 fA1 fA2 nB cB0 cB1 cB2 fB0 fB1 fB2 hs4
  have hg4 := hQ.h0
  generalize w3.heap.size = g at hQ hg3 hg4 ⊢
  obtain rfl : X = (a3, l3, u3) := by rw [hXe.out, HN3.out]; exact hx3.out
  obtain rfl : Y = (a4, l4, u4) := by rw [hYe.out, HN4.out]; exact hx4.out
  clear hXe hYe HN3 HN4 hx3 hx4
  obtain ⟨n1, c10, c11, c12, f10, f11, f12⟩ := id hQ.r1
  obtain ⟨n2, c20, c21, c22, f20, f21, f22⟩ := id hQ.r2
  obtain ⟨n3, c30, c31, c32, f30, f31, f32⟩ := id hQ.s1
  obtain ⟨n4, c40, c41, c42, f40, f41, f42⟩ := id hQ.s2
  have hB := hQ.bel
  cases a3
  · have hno := HF.out.2 (.inl rfl)
    have HNO : Hid (WhenIs 6 true _ _ true _ _ false noSp noSp) := hno
    clear hno HF
    go_wp2_with fail
    refine bodyPost_ret (v := .tuple #[.agg #[.bool false, .int .i64 0, .int .i64 0], .agg #[.bool false, .int .i64 0, .int .i64 0]]) (by simp [results, Try.results11, go_sem, n1, n2, c10, c11, c12, c20, c21, c22]) rfl ⟨noSp, noSp, HNO.out, rfl, ?_⟩
    exact (((((hB.setCell (by simp; omega) _).setCell (by simp; omega) _).setCell (by simp; omega) _).setCell (by simp; omega) _).setCell (by simp; omega) _).setCell (by simp; omega) _
  · cases a4
    · have hno := HF.out.2 (.inr rfl)
      have HNO : Hid (WhenIs 6 true _ _ true _ _ false noSp noSp) := hno
      clear hno HF
      go_wp2_with fail
      refine bodyPost_ret (v := .tuple #[.agg #[.bool false, .int .i64 0, .int .i64 0], .agg #[.bool false, .int .i64 0, .int .i64 0]]) (by simp [results, Try.results11, go_sem, n1, n2, c10, c11, c12, c20, c21, c22]) rfl ⟨noSp, noSp, HNO.out, rfl, ?_⟩
      exact (((((hB.setCell (by simp; omega) _).setCell (by simp; omega) _).setCell (by simp; omega) _).setCell (by simp; omega) _).setCell (by simp; omega) _).setCell (by simp; omega) _
    · have hyes := HF.out.1
      have Hfalse : Hid (WhenIs 6 true _ _ true _ _ false (true, l3, u3) (true, l4, u4)) := hyes
      clear hyes HF
      go_wp2_with fail
      go_region
      all_goals
        go_wp2_with fail
        refine bodyPost_ret (v := .tuple #[.agg #[.bool true, .int .i64 l3, .int .i64 u3], .agg #[.bool true, .int .i64 l4, .int .i64 u4]]) (by simp [results, Try.results11, go_sem, n1, n2, c10, c11, c12, c20, c21, c22]) rfl ⟨(true, l3, u3), (true, l4, u4), Hfalse.out, rfl, ?_⟩
        exact Below.drew ((((((hB.setCell (by simp; omega) _).setCell (by simp; omega) _).setCell (by simp; omega) _).setCell (by simp; omega) _).setCell (by simp; omega) _).setCell (by simp; omega) _)

set_option maxHeartbeats 2000000 in
theorem when_spec_6t (al ah bl bh : Int) (w : World) (hbo : bothF true al ah true bl bh = true) :
    Calls Try.prog 11 #[.int .i64 6, .agg #[.bool true, .int .i64 al, .int .i64 ah], .agg #[.bool true, .int .i64 bl, .int .i64 bh], .bool true] w fun e w' => WhRet 6 true al ah true bl bh true w e w' := by
  obtain ⟨X, hXe⟩ : ∃ X : Sp, Hid (X = mkF (max al bl) (min ah bh)) := ⟨_, rfl⟩
  obtain ⟨Y, hYe⟩ : ∃ Y : Sp, Hid (Y = mkF (max al bl) (min ah bh)) := ⟨_, rfl⟩
  have HF : Hid (WhenIs 6 true al ah true bl bh true X Y ∧ (X.1 = false ∨ Y.1 = false → WhenIs 6 true al ah true bl bh true noSp noSp)) := when_fin hbo (by omega) (hXe.out.trans (by simp [whenX])) (hYe.out.trans (by simp [whenY]))
  have HM : Hid (meetF true al ah true bl bh = mkF (max al bl) (min ah bh)) := meet_mk hbo rfl rfl
  have HK : Hid (okF true al ah = true ∧ okF true bl bh = true) := by simp [bothF] at hbo; exact hbo
  obtain ⟨_, _, ha1, ha2, haa, hb1, hb2, hbb⟩ := both_t hbo
  clear hbo
  go_enter Try.func11, Try.ntmps11
  go_wp2_with fail
  refine (l1Some_any _ _ _ _).mono ?_
  rintro e w1 ⟨rfl, hr1⟩
  rw [HK.out.1]
  have sa1 : Sp3 w1 w.heap.size true al ah := Sp3.later ⟨by go_size, by simp [go_sem], by simp [go_sem], by simp [go_sem], by simp [go_sem], by simp [go_sem], by simp [go_sem]⟩ hr1
  have sb1 : Sp3 w1 (w.heap.size + 1) true bl bh := Sp3.later ⟨by go_size, by simp [go_sem], by simp [go_sem], by simp [go_sem], by simp [go_sem], by simp [go_sem], by simp [go_sem]⟩ hr1
  have ra1 : Sp3 w1 (w.heap.size + 1 + 1) false 0 0 := Sp3.later ⟨by go_size, by simp [go_sem], by simp [go_sem], by simp [go_sem], by simp [go_sem], by simp [go_sem], by simp [go_sem]⟩ hr1
  have rb1 : Sp3 w1 (w.heap.size + 1 + 1 + 1) false 0 0 := Sp3.later ⟨by go_size, by simp [go_sem], by simp [go_sem], by simp [go_sem], by simp [go_sem], by simp [go_sem], by simp [go_sem]⟩ hr1
  have hB1 : Below w.heap.size w w1 := Below.trans (by go_grown) (hr1.mono (by go_size))
  clear hr1
  obtain ⟨nB, cB0, cB1, cB2, fB0, fB1, fB2⟩ := id sb1
  go_wp2_with fail
  refine (l1Some_any _ _ _ _).mono ?_
  rintro e w2 ⟨rfl, hr2⟩
  rw [HK.out.2]
  have sa2 := sa1.later hr2
  have sb2 := sb1.later hr2
  have ra2 := ra1.later hr2
  have rb2 := rb1.later hr2
  have hB2 := hB1.trans (hr2.mono hB1.size)
  clear sa1 sb1 ra1 rb1 hB1 hr2 nB cB0 cB1 cB2 fB0 fB1 fB2
  obtain ⟨nA, cA0, cA1, cA2, fA0, fA1, fA2⟩ := id sa2
  obtain ⟨nB, cB0, cB1, cB2, fB0, fB1, fB2⟩ := id sb2
  go_wp2_with fail
  refine (not_spec _ _ _ _ _ _ _ ha1 ha2 haa).mono ?_
  rintro e w3 ⟨hs3, hr3⟩
  generalize hn3 : notF al ah bl bh = X1 at hs3
  have HN3 : Hid (notF al ah bl bh = X1) := hn3
  clear hn3
  obtain ⟨a3, l3, u3, hx3, rfl⟩ := hs3.out
  have sa3 := sa2.later hr3
  have sb3 := sb2.later hr3
  have ra3 := ra2.later hr3
  have rb3 := rb2.later hr3
  have hB3 := hB2.trans (hr3.mono hB2.size)
  clear sa2 sb2 ra2 rb2 hB2 hr3 nA cA0 cA1 cA2 fA0 fA1 fA2 nB cB0 cB1 cB2 fB0 fB1 fB2 hs3
  obtain ⟨nA, cA0, cA1, cA2, fA0, fA1, fA2⟩ := id sa3
  obtain ⟨nB, cB0, cB1, cB2, fB0, fB1, fB2⟩ := id sb3
  go_wp2_with fail
  refine (not_spec _ _ _ _ _ _ _ hb1 hb2 hbb).mono ?_
  rintro e w4 ⟨hs4, hr4⟩
  generalize hn4 : notF bl bh al ah = Y1 at hs4
  have HN4 : Hid (notF bl bh al ah = Y1) := hn4
  clear hn4
  obtain ⟨a4, l4, u4, hx4, rfl⟩ := hs4.out
  have hg3 : w.heap.size + 1 + 1 + 1 < w3.heap.size := rb3.lt
  have hQ : QSt w (w4.alloc (.cells #[.bool a4, .int .i64 l4, .int .i64 u4] 24)) w3.heap.size w4.heap.size al ah bl bh (a3, l3, u3) (a4, l4, u4) := by
    have sg : Sp3 w4 w3.heap.size a3 l3 u3 := Sp3.later ⟨by go_size, by simp [go_sem], by simp [go_sem], by simp [go_sem], by simp [go_sem], by simp [go_sem], by simp [go_sem]⟩ hr4
    exact ⟨(Below.trans (hB3.alloc hB3.size _) (hr4.mono (by simp; have := hB3.size; omega))).alloc (by have := hr4.size; have := hB3.size; simp at *; omega) _, hg3, sg.lt, ((sa3.alloc _).later hr4).alloc _, ((sb3.alloc _).later hr4).alloc _, ((ra3.alloc _).later hr4).alloc _, ((rb3.alloc _).later hr4).alloc _, sg.alloc _, ⟨by go_size, by simp [go_sem], by simp [go_sem], by simp [go_sem], by simp [go_sem], by simp [go_sem], by simp [go_sem]⟩⟩
  clear sa3 sb3 ra3 rb3 hB3 hr4 nA cA0 cA1 cA2 fA0 fA1 fA2 nB cB0 cB1 cB2 fB0 fB1 fB2 hs4
  have hg4 := hQ.h0
  generalize w3.heap.size = g at hQ hg3 hg4 ⊢
  obtain ⟨nA, cA0, cA1, cA2, fA0, fA1, fA2⟩ := id hQ.sa
  obtain ⟨nB, cB0, cB1, cB2, fB0, fB1, fB2⟩ := id hQ.sb
  obtain ⟨n3, c30, c31, c32, f30, f31, f32⟩ := id hQ.s1
  obtain ⟨n4, c40, c41, c42, f40, f41, f42⟩ := id hQ.s2
  go_wp2_with fail
  refine (meet_spec _ _ _ _ _ _ _).mono ?_
  rintro e w6 ⟨hs6, hr6⟩
  rw [HM.out, ← hXe.out] at hs6
  obtain ⟨a6, l6, u6, hx6, rfl⟩ := hs6.out
  have hQ5 := hQ.later hr6
  have hQ6 := hQ5.setA (a := a6) (l := l6) (u := u6)
  have hQ7 := hQ6.setB (a := a6) (l := l6) (u := u6)
  obtain rfl : Y = (a6, l6, u6) := by rw [hYe.out, ← hXe.out]; exact hx6.out
  obtain rfl : X = (a6, l6, u6) := hx6.out
  clear nA cA0 cA1 cA2 fA0 fA1 fA2 nB cB0 cB1 cB2 fB0 fB1 fB2 n3 c30 c31 c32 f30 f31 f32 n4 c40 c41 c42 f40 f41 f42
  clear hs6 hx6 hXe hYe HN3 HN4 hx3 hx4 hQ hr6 hQ6
  obtain ⟨n3, c30, c31, c32, f30, f31, f32⟩ := id hQ5.s1
  obtain ⟨n4, c40, c41, c42, f40, f41, f42⟩ := id hQ5.s2
  have hgh : ¬ g = w4.heap.size := by omega
  have hgh' : ¬ w4.heap.size = g := by omega
  clear hQ5
  go_upto_region 14 with fail
  generalize ((((((w6.setCell ⟨g, 0, none⟩ (.bool a6)).setCell ⟨g, 1, none⟩ (.int .i64 l6)).setCell ⟨g, 2, none⟩ (.int .i64 u6)).setCell ⟨w4.heap.size, 0, none⟩ (.bool a6)).setCell ⟨w4.heap.size, 1, none⟩ (.int .i64 l6)).setCell ⟨w4.heap.size, 2, none⟩ (.int .i64 u6)) = x at hQ7 ⊢
  clear n3 c30 c31 c32 f30 f31 f32 n4 c40 c41 c42 f40 f41 f42
  obtain ⟨n1, c10, c11, c12, f10, f11, f12⟩ := id hQ7.r1
  obtain ⟨n2, c20, c21, c22, f20, f21, f22⟩ := id hQ7.r2
  obtain ⟨n3, c30, c31, c32, f30, f31, f32⟩ := id hQ7.s1
  obtain ⟨n4, c40, c41, c42, f40, f41, f42⟩ := id hQ7.s2
  have hB := hQ7.bel
  cases a6
  · have hno := HF.out.2 (.inl rfl)
    have HNO : Hid (WhenIs 6 true _ _ true _ _ true noSp noSp) := hno
    clear hno HF
    go_wp2_with fail
    refine bodyPost_ret (v := .tuple #[.agg #[.bool false, .int .i64 0, .int .i64 0], .agg #[.bool false, .int .i64 0, .int .i64 0]]) (by simp [results, Try.results11, go_sem, n1, n2, c10, c11, c12, c20, c21, c22]) rfl ⟨noSp, noSp, HNO.out, rfl, ?_⟩
    exact (((((hB.setCell (by simp; omega) _).setCell (by simp; omega) _).setCell (by simp; omega) _).setCell (by simp; omega) _).setCell (by simp; omega) _).setCell (by simp; omega) _
  · have hyes := HF.out.1
    have Htrue : Hid (WhenIs 6 true _ _ true _ _ true (true, l6, u6) (true, l6, u6)) := hyes
    clear hyes HF
    go_wp2_with fail
    go_region
    all_goals
      go_wp2_with fail
      refine bodyPost_ret (v := .tuple #[.agg #[.bool true, .int .i64 l6, .int .i64 u6], .agg #[.bool true, .int .i64 l6, .int .i64 u6]]) (by simp [results, Try.results11, go_sem, n1, n2, c10, c11, c12, c20, c21, c22]) rfl ⟨(true, l6, u6), (true, l6, u6), Htrue.out, rfl, ?_⟩
      exact Below.drew ((((((hB.setCell (by simp; omega) _).setCell (by simp; omega) _).setCell (by simp; omega) _).setCell (by simp; omega) _).setCell (by simp; omega) _).setCell (by simp; omega) _)

end Go.Proofs.Ytlnfjjciilieeaa
