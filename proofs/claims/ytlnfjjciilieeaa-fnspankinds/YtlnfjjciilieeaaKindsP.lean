/-
  The walk of the law FnSpanKinds.
-/
import Derived.Test.YtlnfjjciilieeaaOfP
import Derived.Test.YtlnfjjciilieeaaKindsO
import Derived.Test.YtlnfjjciilieeaaInv3
import Derived.Deep.DeepCutAuto
namespace Go.Proofs.Ytlnfjjciilieeaa
open Go.RowKit
set_option linter.unusedVariables false
set_option linter.unusedSimpArgs false

set_option maxRecDepth 100000 in
set_option maxHeartbeats 16000000 in
theorem spanKinds_walk (a0 : Option Addr) (len0 cap0 : Nat) (z0 : List Int) (w : World) (h0 : IsRow w a0 len0 cap0 z0) :
    Calls Try.prog 10 #[.slice a0 len0 cap0] w fun e w' => e = .returned (.bool true) ∧ Below w.heap.size w w' := by
  have hm0 := row_len h0
  unfold maxLen at hm0
  by_cases hl0 : (1048576 : Int) < (len0 : Int)
  · clear h0
    go_enter Try.func10, Try.ntmps10
    go_wp2
    go_ret
    exact ⟨rfl, by go_grown⟩
  go_enter Try.func10, Try.ntmps10
  go_wp2_with fail
  refine (drawSpanKinds_any a0 len0 cap0 z0 _ h0).mono ?_
  rintro e y1 hg
  obtain ⟨a, l, u, rfl, hb⟩ := hg.it
  clear hg h0
  have hB := hb
  clear hb
  go_wp2_with fail
  have hG : Below y1.heap.size y1 (y1.alloc (.cells #[.bool a, .int .i64 l, .int .i64 u] 24)) := by go_grown
  have SS : Sp3 (y1.alloc (.cells #[.bool a, .int .i64 l, .int .i64 u] 24)) (y1.heap.size) a l u := ⟨by go_size, by simp [go_sem], by simp [go_sem], by simp [go_sem], by simp [go_sem], by simp [go_sem], by simp [go_sem]⟩
  replace hB := hB.trans (hG.mono hB.size)
  clear hG
  generalize hgen : (y1.alloc (.cells #[.bool a, .int .i64 l, .int .i64 u] 24)) = y2 at SS  hB ⊢
  refine (kinds_impl _ _ _ _).mono ?_
  rintro e y3 ⟨v1, rfl, O1, hb⟩
  replace SS := SS.later hb
  replace hB := hB.trans (hb.mono hB.size)
  clear hb
  generalize hB1 : y2.heap.size + 1 = B1 at O1
  obtain ⟨nS, c0S, c1S, c2S, f0S, f1S, f2S⟩ := id SS
  go_wp2_with fail
  clear nS c0S c1S c2S f0S f1S f2S
  refine (kinds_spec _ _ _ _).mono ?_
  rintro e y4 ⟨v2, rfl, O2, hb⟩
  replace O1 := O1.later hb
  replace SS := SS.later hb
  replace hB := hB.trans (hb.mono hB.size)
  clear hb
  go_wp2_with fail
  refine (lgInts_b _ _ _ _ _ _ O1 O2).mono ?_
  rintro e y5 ⟨rfl, hb⟩
  replace O1 := O1.later hb
  clear O2
  replace SS := SS.later hb
  replace hB := hB.trans (hb.mono hB.size)
  clear hb
  go_wp2_with fail
  have hG : Below y5.heap.size y5 (y5.alloc (.cells #[.int .i64 0, .int .i64 0, .int .i64 0] 3)) := by go_grown
  have nO : ∀ k, v1.ownBlock = some k → k ≠ y5.heap.size := fun k hk => by have := (World.ownsRow.lt O1 k hk).2; omega
  have nS : y1.heap.size ≠ y5.heap.size := by have := SS.lt; omega
  have hwt : w.heap.size ≤ y5.heap.size := hB.size
  have NE : Hid ((∀ k, v1.ownBlock = some k → k ≠ y5.heap.size) ∧ (y1.heap.size) ≠ y5.heap.size ∧ w.heap.size ≤ y5.heap.size) := ⟨nO, nS, hwt⟩
  clear nO nS hwt
  replace SS := SS.later hG
  replace O1 := O1.later hG
  replace hB := hB.trans (hG.mono hB.size)
  have IF : I3 (y5.alloc (.cells #[.int .i64 0, .int .i64 0, .int .i64 0] 3)) (y5.heap.size) 0 0 0 := ⟨by go_size, by simp [go_sem], by simp [go_sem], by simp [go_sem], by simp [go_sem], by simp [go_sem], by simp [go_sem]⟩
  clear hG
  generalize hgen2 : (y5.alloc (.cells #[.int .i64 0, .int .i64 0, .int .i64 0] 3)) = yy at SS O1 hB IF ⊢
  go_loopw [6] (fun s6 x => ∃ n c0 c1 c2 : Int, -16 ≤ n ∧ n ≤ 16 ∧ s6 = .int .i64 n ∧ Hid (Fd a l u 0 n c0 ∧ Fd a l u 1 n c1 ∧ Fd a l u 2 n c2) ∧ Below w.heap.size w x ∧ Sp3 x (y1.heap.size) a l u ∧ I3 x (y5.heap.size) c0 c1 c2 ∧ Owns x B1 v1 (KL a l u 3)) (fun s6 _ => (16 - intOf s6).toNat)
  case atStart => exact ⟨-16, 0, 0, 0, by omega, by omega, rfl, ⟨Fd.zero, Fd.zero, Fd.zero⟩, hB, SS, IF, O1⟩
  case round =>
    clear SS O1 IF hB
    obtain ⟨n, c0, c1, c2, n0, n1, rfl, HF, hB, SS, IF, O1⟩ := hrel
    by_cases hlt : n ≤ 15
    · obtain ⟨t, ht⟩ : ∃ t, Hid (hasF a l u n = t) := ⟨_, rfl⟩
      go_wp2_with fail
      go_loopw [7, 8] (fun s7 s8 x => ∃ k o d0 d1 d2 : Int, (k = 0 ∨ k = 1 ∨ k = 2 ∨ k = 3) ∧ s8 = .int .i64 k ∧ s7 = .int .i64 o ∧ Hid (o = OF n k ∧ d0 = DJ c0 n t 0 k ∧ d1 = DJ c1 n t 1 k ∧ d2 = DJ c2 n t 2 k) ∧ Below w.heap.size w x ∧ Sp3 x (y1.heap.size) a l u ∧ I3 x (y5.heap.size) d0 d1 d2 ∧ Owns x B1 v1 (KL a l u 3)) (fun _ s8 _ => (3 - intOf s8).toNat)
      case atStart => exact ⟨0, 0, c0, c1, c2, .inl rfl, rfl, rfl, ⟨of_zero n, dj_zero (by omega), dj_zero (by omega), dj_zero (by omega)⟩, hB, SS, IF, O1⟩
      case round =>
        clear SS O1 IF hB
        obtain ⟨k, o, d0, d1, d2, hk, rfl, rfl, HD, hB, SS, IF, O1⟩ := hrel
        rcases hk with rfl | rfl | rfl | rfl
        · by_cases hk : knF n = 0
          · have HK : Hid (knF n = 0) := hk
            have HH : Hid (hasF true (-16) (-1) n = true) := has_kind (k := 0) rfl (by omega) (by omega) (by simp [hk])
            clear hk
            obtain ⟨ho, e0, e1, e2⟩ := HD.out
            rw [of_at0 HK.out] at ho
            subst ho
            go_wp2_with fail
            refine (kind_at (show kindF 0 = (true, (-16), (-1)) from rfl) _).mono ?_
            rintro e y6 ⟨rfl, hb⟩
            replace O1 := O1.later hb
            replace IF := IF.later hb
            replace SS := SS.later hb
            replace hB := hB.trans (hb.mono hB.size)
            clear hb
            go_wp2_with fail
            refine (has_at HH.out _).mono ?_
            rintro e y7 ⟨rfl, hb⟩
            replace O1 := O1.later hb
            replace IF := IF.later hb
            replace SS := SS.later hb
            replace hB := hB.trans (hb.mono hB.size)
            clear hb
            cases t
            · obtain ⟨nS, c0S, c1S, c2S, f0S, f1S, f2S⟩ := id SS
              go_wp2_with fail
              clear nS c0S c1S c2S f0S f1S f2S
              refine (has_at ht.out _).mono ?_
              rintro e y8 ⟨rfl, hb⟩
              replace O1 := O1.later hb
              replace IF := IF.later hb
              replace SS := SS.later hb
              replace hB := hB.trans (hb.mono hB.size)
              clear hb
              have HN : Hid ((1 : Int) = OF n 1 ∧ d0 = DJ c0 n false 0 1 ∧ d1 = DJ c1 n false 1 1 ∧ d2 = DJ c2 n false 2 1) := ⟨(of_at1 HK.out).symm, e0.trans dj_no, e1.trans dj_no, e2.trans dj_no⟩
              clear e0 e1 e2 HD
              go_wp2_with fail
              go_roundw
              case rel => exact ⟨1, 1, d0, d1, d2, .inr (.inl rfl), by go_num, by go_num, HN.out, hB, SS, IF, O1⟩
              case measure => simp [intOf]
            · obtain ⟨nS, c0S, c1S, c2S, f0S, f1S, f2S⟩ := id SS
              go_wp2_with fail
              clear nS c0S c1S c2S f0S f1S f2S
              refine (has_at ht.out _).mono ?_
              rintro e y8 ⟨rfl, hb⟩
              replace O1 := O1.later hb
              replace IF := IF.later hb
              replace SS := SS.later hb
              replace hB := hB.trans (hb.mono hB.size)
              clear hb
              have HN : Hid ((1 : Int) = OF n 1 ∧ 1 = DJ c0 n true 0 1 ∧ d1 = DJ c1 n true 1 1 ∧ d2 = DJ c2 n true 2 1) := ⟨(of_at1 HK.out).symm, (dj_one HK.out).symm, e1.trans (dj_other (by rw [HK.out]; omega)), e2.trans (dj_other (by rw [HK.out]; omega))⟩
              clear e0 e1 e2 HD
              have IF2 := IF
              obtain ⟨nI, cI0, cI1, cI2, fI0, fI1, fI2⟩ := IF2
              go_wp2_with fail
              go_roundw
              case rel => exact ⟨1, 1, 1, d1, d2, .inr (.inl rfl), by go_num, by go_num, HN.out, hB.setCell NE.out.2.2 _, SS.off NE.out.2.1, IF.set0, O1.off NE.out.1⟩
              case measure => simp [intOf]
          · have HK : Hid (knF n ≠ 0) := hk
            have HH : Hid (hasF true (-16) (-1) n = false) := has_kind (k := 0) rfl (by omega) (by omega) (by simp [hk])
            clear hk
            obtain ⟨ho, e0, e1, e2⟩ := HD.out
            have HN : Hid (o = OF n 1 ∧ d0 = DJ c0 n t 0 1 ∧ d1 = DJ c1 n t 1 1 ∧ d2 = DJ c2 n t 2 1) := ⟨ho.trans (of_stay HK.out).symm, e0.trans (dj_stay HK.out).symm, e1.trans (dj_stay HK.out).symm, e2.trans (dj_stay HK.out).symm⟩
            clear ho e0 e1 e2 HD
            go_wp2_with fail
            refine (kind_at (show kindF 0 = (true, (-16), (-1)) from rfl) _).mono ?_
            rintro e y6 ⟨rfl, hb⟩
            replace O1 := O1.later hb
            replace IF := IF.later hb
            replace SS := SS.later hb
            replace hB := hB.trans (hb.mono hB.size)
            clear hb
            go_wp2_with fail
            refine (has_at HH.out _).mono ?_
            rintro e y7 ⟨rfl, hb⟩
            replace O1 := O1.later hb
            replace IF := IF.later hb
            replace SS := SS.later hb
            replace hB := hB.trans (hb.mono hB.size)
            clear hb
            go_wp2_with fail
            go_roundw
            case rel => exact ⟨1, o, d0, d1, d2, .inr (.inl rfl), by go_num, by go_num, HN.out, hB, SS, IF, O1⟩
            case measure => simp [intOf]
        · by_cases hk : knF n = 1
          · have HK : Hid (knF n = 1) := hk
            have HH : Hid (hasF true 0 0 n = true) := has_kind (k := 1) rfl (by omega) (by omega) (by simp [hk])
            clear hk
            obtain ⟨ho, e0, e1, e2⟩ := HD.out
            rw [of_at0 HK.out] at ho
            subst ho
            go_wp2_with fail
            refine (kind_at (show kindF 1 = (true, 0, 0) from rfl) _).mono ?_
            rintro e y6 ⟨rfl, hb⟩
            replace O1 := O1.later hb
            replace IF := IF.later hb
            replace SS := SS.later hb
            replace hB := hB.trans (hb.mono hB.size)
            clear hb
            go_wp2_with fail
            refine (has_at HH.out _).mono ?_
            rintro e y7 ⟨rfl, hb⟩
            replace O1 := O1.later hb
            replace IF := IF.later hb
            replace SS := SS.later hb
            replace hB := hB.trans (hb.mono hB.size)
            clear hb
            cases t
            · obtain ⟨nS, c0S, c1S, c2S, f0S, f1S, f2S⟩ := id SS
              go_wp2_with fail
              clear nS c0S c1S c2S f0S f1S f2S
              refine (has_at ht.out _).mono ?_
              rintro e y8 ⟨rfl, hb⟩
              replace O1 := O1.later hb
              replace IF := IF.later hb
              replace SS := SS.later hb
              replace hB := hB.trans (hb.mono hB.size)
              clear hb
              have HN : Hid ((1 : Int) = OF n 2 ∧ d0 = DJ c0 n false 0 2 ∧ d1 = DJ c1 n false 1 2 ∧ d2 = DJ c2 n false 2 2) := ⟨(of_at1 HK.out).symm, e0.trans dj_no, e1.trans dj_no, e2.trans dj_no⟩
              clear e0 e1 e2 HD
              go_wp2_with fail
              go_roundw
              case rel => exact ⟨2, 1, d0, d1, d2, .inr (.inr (.inl rfl)), by go_num, by go_num, HN.out, hB, SS, IF, O1⟩
              case measure => simp [intOf]
            · obtain ⟨nS, c0S, c1S, c2S, f0S, f1S, f2S⟩ := id SS
              go_wp2_with fail
              clear nS c0S c1S c2S f0S f1S f2S
              refine (has_at ht.out _).mono ?_
              rintro e y8 ⟨rfl, hb⟩
              replace O1 := O1.later hb
              replace IF := IF.later hb
              replace SS := SS.later hb
              replace hB := hB.trans (hb.mono hB.size)
              clear hb
              have HN : Hid ((1 : Int) = OF n 2 ∧ d0 = DJ c0 n true 0 2 ∧ 1 = DJ c1 n true 1 2 ∧ d2 = DJ c2 n true 2 2) := ⟨(of_at1 HK.out).symm, e0.trans (dj_other (by rw [HK.out]; omega)), (dj_one HK.out).symm, e2.trans (dj_other (by rw [HK.out]; omega))⟩
              clear e0 e1 e2 HD
              have IF2 := IF
              obtain ⟨nI, cI0, cI1, cI2, fI0, fI1, fI2⟩ := IF2
              go_wp2_with fail
              go_roundw
              case rel => exact ⟨2, 1, d0, 1, d2, .inr (.inr (.inl rfl)), by go_num, by go_num, HN.out, hB.setCell NE.out.2.2 _, SS.off NE.out.2.1, IF.set1, O1.off NE.out.1⟩
              case measure => simp [intOf]
          · have HK : Hid (knF n ≠ 1) := hk
            have HH : Hid (hasF true 0 0 n = false) := has_kind (k := 1) rfl (by omega) (by omega) (by simp [hk])
            clear hk
            obtain ⟨ho, e0, e1, e2⟩ := HD.out
            have HN : Hid (o = OF n 2 ∧ d0 = DJ c0 n t 0 2 ∧ d1 = DJ c1 n t 1 2 ∧ d2 = DJ c2 n t 2 2) := ⟨ho.trans (of_stay HK.out).symm, e0.trans (dj_stay HK.out).symm, e1.trans (dj_stay HK.out).symm, e2.trans (dj_stay HK.out).symm⟩
            clear ho e0 e1 e2 HD
            go_wp2_with fail
            refine (kind_at (show kindF 1 = (true, 0, 0) from rfl) _).mono ?_
            rintro e y6 ⟨rfl, hb⟩
            replace O1 := O1.later hb
            replace IF := IF.later hb
            replace SS := SS.later hb
            replace hB := hB.trans (hb.mono hB.size)
            clear hb
            go_wp2_with fail
            refine (has_at HH.out _).mono ?_
            rintro e y7 ⟨rfl, hb⟩
            replace O1 := O1.later hb
            replace IF := IF.later hb
            replace SS := SS.later hb
            replace hB := hB.trans (hb.mono hB.size)
            clear hb
            go_wp2_with fail
            go_roundw
            case rel => exact ⟨2, o, d0, d1, d2, .inr (.inr (.inl rfl)), by go_num, by go_num, HN.out, hB, SS, IF, O1⟩
            case measure => simp [intOf]
        · by_cases hk : knF n = 2
          · have HK : Hid (knF n = 2) := hk
            have HH : Hid (hasF true 1 15 n = true) := has_kind (k := 2) rfl (by omega) (by omega) (by simp [hk])
            clear hk
            obtain ⟨ho, e0, e1, e2⟩ := HD.out
            rw [of_at0 HK.out] at ho
            subst ho
            go_wp2_with fail
            refine (kind_at (show kindF 2 = (true, 1, 15) from rfl) _).mono ?_
            rintro e y6 ⟨rfl, hb⟩
            replace O1 := O1.later hb
            replace IF := IF.later hb
            replace SS := SS.later hb
            replace hB := hB.trans (hb.mono hB.size)
            clear hb
            go_wp2_with fail
            refine (has_at HH.out _).mono ?_
            rintro e y7 ⟨rfl, hb⟩
            replace O1 := O1.later hb
            replace IF := IF.later hb
            replace SS := SS.later hb
            replace hB := hB.trans (hb.mono hB.size)
            clear hb
            cases t
            · obtain ⟨nS, c0S, c1S, c2S, f0S, f1S, f2S⟩ := id SS
              go_wp2_with fail
              clear nS c0S c1S c2S f0S f1S f2S
              refine (has_at ht.out _).mono ?_
              rintro e y8 ⟨rfl, hb⟩
              replace O1 := O1.later hb
              replace IF := IF.later hb
              replace SS := SS.later hb
              replace hB := hB.trans (hb.mono hB.size)
              clear hb
              have HN : Hid ((1 : Int) = OF n 3 ∧ d0 = DJ c0 n false 0 3 ∧ d1 = DJ c1 n false 1 3 ∧ d2 = DJ c2 n false 2 3) := ⟨(of_at1 HK.out).symm, e0.trans dj_no, e1.trans dj_no, e2.trans dj_no⟩
              clear e0 e1 e2 HD
              go_wp2_with fail
              go_roundw
              case rel => exact ⟨3, 1, d0, d1, d2, .inr (.inr (.inr rfl)), by go_num, by go_num, HN.out, hB, SS, IF, O1⟩
              case measure => simp [intOf]
            · obtain ⟨nS, c0S, c1S, c2S, f0S, f1S, f2S⟩ := id SS
              go_wp2_with fail
              clear nS c0S c1S c2S f0S f1S f2S
              refine (has_at ht.out _).mono ?_
              rintro e y8 ⟨rfl, hb⟩
              replace O1 := O1.later hb
              replace IF := IF.later hb
              replace SS := SS.later hb
              replace hB := hB.trans (hb.mono hB.size)
              clear hb
              have HN : Hid ((1 : Int) = OF n 3 ∧ d0 = DJ c0 n true 0 3 ∧ d1 = DJ c1 n true 1 3 ∧ 1 = DJ c2 n true 2 3) := ⟨(of_at1 HK.out).symm, e0.trans (dj_other (by rw [HK.out]; omega)), e1.trans (dj_other (by rw [HK.out]; omega)), (dj_one HK.out).symm⟩
              clear e0 e1 e2 HD
              have IF2 := IF
              obtain ⟨nI, cI0, cI1, cI2, fI0, fI1, fI2⟩ := IF2
              go_wp2_with fail
              go_roundw
              case rel => exact ⟨3, 1, d0, d1, 1, .inr (.inr (.inr rfl)), by go_num, by go_num, HN.out, hB.setCell NE.out.2.2 _, SS.off NE.out.2.1, IF.set2, O1.off NE.out.1⟩
              case measure => simp [intOf]
          · have HK : Hid (knF n ≠ 2) := hk
            have HH : Hid (hasF true 1 15 n = false) := has_kind (k := 2) rfl (by omega) (by omega) (by simp [hk])
            clear hk
            obtain ⟨ho, e0, e1, e2⟩ := HD.out
            have HN : Hid (o = OF n 3 ∧ d0 = DJ c0 n t 0 3 ∧ d1 = DJ c1 n t 1 3 ∧ d2 = DJ c2 n t 2 3) := ⟨ho.trans (of_stay HK.out).symm, e0.trans (dj_stay HK.out).symm, e1.trans (dj_stay HK.out).symm, e2.trans (dj_stay HK.out).symm⟩
            clear ho e0 e1 e2 HD
            go_wp2_with fail
            refine (kind_at (show kindF 2 = (true, 1, 15) from rfl) _).mono ?_
            rintro e y6 ⟨rfl, hb⟩
            replace O1 := O1.later hb
            replace IF := IF.later hb
            replace SS := SS.later hb
            replace hB := hB.trans (hb.mono hB.size)
            clear hb
            go_wp2_with fail
            refine (has_at HH.out _).mono ?_
            rintro e y7 ⟨rfl, hb⟩
            replace O1 := O1.later hb
            replace IF := IF.later hb
            replace SS := SS.later hb
            replace hB := hB.trans (hb.mono hB.size)
            clear hb
            go_wp2_with fail
            go_roundw
            case rel => exact ⟨3, o, d0, d1, d2, .inr (.inr (.inr rfl)), by go_num, by go_num, HN.out, hB, SS, IF, O1⟩
            case measure => simp [intOf]
        · obtain ⟨ho, e0, e1, e2⟩ := HD.out
          rw [of_three] at ho
          subst ho
          have HN : Hid (Fd a l u 0 (n + 1) d0 ∧ Fd a l u 1 (n + 1) d1 ∧ Fd a l u 2 (n + 1) d2) := by rw [e0, e1, e2]; exact ⟨HF.out.1.next (by omega) n0 ht.out, HF.out.2.1.next (by omega) n0 ht.out, HF.out.2.2.next (by omega) n0 ht.out⟩
          clear e0 e1 e2 HD HF
          go_wp2_with fail
          go_roundw
          case rel => exact ⟨n + 1, d0, d1, d2, by omega, by omega, by go_num, HN.out, hB, SS, IF, O1⟩
          case measure => simp [intOf]; omega
    · obtain rfl : n = 16 := by omega
      obtain ⟨F0, F1, F2⟩ := HF.out
      obtain ⟨m0, hm0⟩ : ∃ m, kinHas a l u 0 = m := ⟨_, rfl⟩
      have M0 : Hid (hasL (KL a l u 3) 0 = m0) := by rw [← hm0]; exact hasL_KL.1
      have Q0 : Hid ((c0 == 1) = m0) := by rw [← hm0]; exact Fd.end_ (j := 0) (by omega) F0
      obtain ⟨m1, hm1⟩ : ∃ m, kinHas a l u 1 = m := ⟨_, rfl⟩
      have M1 : Hid (hasL (KL a l u 3) 1 = m1) := by rw [← hm1]; exact hasL_KL.2.1
      have Q1 : Hid ((c1 == 1) = m1) := by rw [← hm1]; exact Fd.end_ (j := 1) (by omega) F1
      obtain ⟨m2, hm2⟩ : ∃ m, kinHas a l u 2 = m := ⟨_, rfl⟩
      have M2 : Hid (hasL (KL a l u 3) 2 = m2) := by rw [← hm2]; exact hasL_KL.2.2
      have Q2 : Hid ((c2 == 1) = m2) := by rw [← hm2]; exact Fd.end_ (j := 2) (by omega) F2
      clear F0 F1 F2 HF hm0 hm1 hm2 n0 n1 hlt
      go_wp2_with fail
      refine wp_region_vals (by kernel_rfl) (by kernel_rfl) (by kernel_rfl) (by kernel_rfl) (fun j => [v1, .bool m0, Value.slice (some { block := y5.heap.size, off := 0 }) 3 3, .pointer (some ⟨y5.heap.size, 0, none⟩), .int .i64 c0, .bool m0, .bool true, .bool true, v1, .bool m1, Value.slice (some { block := y5.heap.size, off := 0 }) 3 3, .pointer (some ⟨y5.heap.size, 1, none⟩), .int .i64 c1, .bool m1, .bool true, .bool true, .bool true, v1, .bool m2, Value.slice (some { block := y5.heap.size, off := 0 }) 3 3, .pointer (some ⟨y5.heap.size, 2, none⟩), .int .i64 c2, .bool m2, .bool true, .bool true, .bool true].getD j undef) wr (Below.drew (Below.refl _ _)) ?step ⟨#[Value.slice a0 len0 cap0, undef, .bool true, Value.pointer (some { block := y1.heap.size, off := 0 }), v1, Value.slice (some { block := y5.heap.size, off := 0 }) 3 3, Value.int IntKind.i64 16, u7, u8, Value.slice a0 len0 cap0, Value.int IntKind.i64 ↑len0, Value.bool false, Value.slice a0 len0 cap0, Value.agg #[Value.bool a, Value.int IntKind.i64 l, Value.int IntKind.i64 u], Value.agg #[Value.bool a, Value.int IntKind.i64 l, Value.int IntKind.i64 u], v1, v1, Value.agg #[Value.bool a, Value.int IntKind.i64 l, Value.int IntKind.i64 u], v2, Value.bool true, Value.bool false, Value.slice (some { block := y5.heap.size, off := 0 }) 3 3, Value.int IntKind.i64 16, Value.bool false, u24, u25, u26, u27, u28, u29, u30, u31, u32, u33, u34, u35, u36, u37, u38, u39, u40, u41, u42, u43, v1, .bool m0, Value.slice (some { block := y5.heap.size, off := 0 }) 3 3, .pointer (some ⟨y5.heap.size, 0, none⟩), .int .i64 c0, .bool m0, .bool true, .bool true, v1, .bool m1, Value.slice (some { block := y5.heap.size, off := 0 }) 3 3, .pointer (some ⟨y5.heap.size, 1, none⟩), .int .i64 c1, .bool m1, .bool true, .bool true, .bool true, v1, .bool m2, Value.slice (some { block := y5.heap.size, off := 0 }) 3 3, .pointer (some ⟨y5.heap.size, 2, none⟩), .int .i64 c2, .bool m2, .bool true, .bool true], []⟩ (by kernel_rfl) ?fin
      case step =>
        intro i o ho ρ y x hBx hdep hout
        rcases i with _ | i
        · obtain rfl := Option.some.inj ho
          have o4 : ρ (.tmp 4) = v1 := hout (.tmp 4) rfl
          have ocn : ∀ v, ρ (.const v) = v := fun v => hout (.const v) rfl
          have ofn : ∀ f, ρ (.func f) = .func (.func f) #[] #[] := fun f => hout (.func f) rfl
          clear hdep hout
          refine .inl ⟨?_, ?_⟩
          · rfl
          show Gives _ _ _ (v1) _
          refine Gives.val ?_
          go_simp
        rcases i with _ | i
        · obtain rfl := Option.some.inj ho
          have e0 : ρ (.tmp 44) = v1 := (hdep ⟨0, .data⟩ (by simp) rfl).1 44 rfl
          have ocn : ∀ v, ρ (.const v) = v := fun v => hout (.const v) rfl
          have ofn : ∀ f, ρ (.func f) = .func (.func f) #[] #[] := fun f => hout (.func f) rfl
          clear hdep hout
          refine .inl ⟨?_, ?_⟩
          · rfl
          show Gives _ _ _ (.bool m0) _
          refine Gives.call (lgHas_at (O1.later hBx) M0.out) ?_
          go_simp
        rcases i with _ | i
        · obtain rfl := Option.some.inj ho
          have o5 : ρ (.tmp 5) = Value.slice (some { block := y5.heap.size, off := 0 }) 3 3 := hout (.tmp 5) rfl
          have ocn : ∀ v, ρ (.const v) = v := fun v => hout (.const v) rfl
          have ofn : ∀ f, ρ (.func f) = .func (.func f) #[] #[] := fun f => hout (.func f) rfl
          clear hdep hout
          refine .inl ⟨?_, ?_⟩
          · rfl
          show Gives _ _ _ (Value.slice (some { block := y5.heap.size, off := 0 }) 3 3) _
          refine Gives.val ?_
          go_simp
        rcases i with _ | i
        · obtain rfl := Option.some.inj ho
          have e2 : ρ (.tmp 46) = Value.slice (some { block := y5.heap.size, off := 0 }) 3 3 := (hdep ⟨2, .data⟩ (by simp) rfl).1 46 rfl
          have ocn : ∀ v, ρ (.const v) = v := fun v => hout (.const v) rfl
          have ofn : ∀ f, ρ (.func f) = .func (.func f) #[] #[] := fun f => hout (.func f) rfl
          clear hdep hout
          refine .inl ⟨?_, ?_⟩
          · rfl
          show Gives _ _ _ (.pointer (some ⟨y5.heap.size, 0, none⟩)) _
          refine Gives.val ?_
          go_simp
        rcases i with _ | i
        · obtain rfl := Option.some.inj ho
          have e3 : ρ (.tmp 47) = .pointer (some ⟨y5.heap.size, 0, none⟩) := (hdep ⟨3, .data⟩ (by simp) rfl).1 47 rfl
          have ocn : ∀ v, ρ (.const v) = v := fun v => hout (.const v) rfl
          have ofn : ∀ f, ρ (.func f) = .func (.func f) #[] #[] := fun f => hout (.func f) rfl
          clear hdep hout
          refine .inl ⟨?_, ?_⟩
          · rfl
          obtain ⟨n, k0, k1, k2, f0, f1, f2⟩ := IF.later hBx
          show Gives _ _ _ (.int .i64 c0) _
          refine Gives.val ?_
          go_simp
        rcases i with _ | i
        · obtain rfl := Option.some.inj ho
          have e4 : ρ (.tmp 48) = .int .i64 c0 := (hdep ⟨4, .data⟩ (by simp) rfl).1 48 rfl
          have ocn : ∀ v, ρ (.const v) = v := fun v => hout (.const v) rfl
          have ofn : ∀ f, ρ (.func f) = .func (.func f) #[] #[] := fun f => hout (.func f) rfl
          clear hdep hout
          refine .inl ⟨?_, ?_⟩
          · rfl
          have hq := Q0.out
          show Gives _ _ _ (.bool m0) _
          refine Gives.val ?_
          go_simp
        rcases i with _ | i
        · obtain rfl := Option.some.inj ho
          have e1 : ρ (.tmp 45) = .bool m0 := (hdep ⟨1, .data⟩ (by simp) rfl).1 45 rfl
          have e5 : ρ (.tmp 49) = .bool m0 := (hdep ⟨5, .data⟩ (by simp) rfl).1 49 rfl
          have ocn : ∀ v, ρ (.const v) = v := fun v => hout (.const v) rfl
          have ofn : ∀ f, ρ (.func f) = .func (.func f) #[] #[] := fun f => hout (.func f) rfl
          clear hdep hout
          refine .inl ⟨?_, ?_⟩
          · rfl
          show Gives _ _ _ (.bool true) _
          refine Gives.val ?_
          go_simp
        rcases i with _ | i
        · obtain rfl := Option.some.inj ho
          have e6 : ρ (.tmp 50) = .bool true := (hdep ⟨6, .data⟩ (by simp) rfl).1 50 rfl
          have ocn : ∀ v, ρ (.const v) = v := fun v => hout (.const v) rfl
          have ofn : ∀ f, ρ (.func f) = .func (.func f) #[] #[] := fun f => hout (.func f) rfl
          clear hdep hout
          refine .inl ⟨?_, ?_⟩
          · rfl
          show Gives _ _ _ (.bool true) _
          refine Gives.val ?_
          go_simp
        rcases i with _ | i
        · obtain rfl := Option.some.inj ho
          have o4 : ρ (.tmp 4) = v1 := hout (.tmp 4) rfl
          have yg : y 7 = some true := (hdep ⟨7, .guard⟩ (by simp) rfl).2 51 rfl
          have ocn : ∀ v, ρ (.const v) = v := fun v => hout (.const v) rfl
          have ofn : ∀ f, ρ (.func f) = .func (.func f) #[] #[] := fun f => hout (.func f) rfl
          clear hdep hout
          refine .inl ⟨?_, ?_⟩
          · show (y 7 == some true) = true
            rw [yg]; rfl
          show Gives _ _ _ (v1) _
          refine Gives.val ?_
          go_simp
        rcases i with _ | i
        · obtain rfl := Option.some.inj ho
          have e8 : ρ (.tmp 52) = v1 := (hdep ⟨8, .data⟩ (by simp) rfl).1 52 rfl
          have yg : y 7 = some true := (hdep ⟨7, .guard⟩ (by simp) rfl).2 51 rfl
          have ocn : ∀ v, ρ (.const v) = v := fun v => hout (.const v) rfl
          have ofn : ∀ f, ρ (.func f) = .func (.func f) #[] #[] := fun f => hout (.func f) rfl
          clear hdep hout
          refine .inl ⟨?_, ?_⟩
          · show (y 7 == some true) = true
            rw [yg]; rfl
          show Gives _ _ _ (.bool m1) _
          refine Gives.call (lgHas_at (O1.later hBx) M1.out) ?_
          go_simp
        rcases i with _ | i
        · obtain rfl := Option.some.inj ho
          have o5 : ρ (.tmp 5) = Value.slice (some { block := y5.heap.size, off := 0 }) 3 3 := hout (.tmp 5) rfl
          have yg : y 7 = some true := (hdep ⟨7, .guard⟩ (by simp) rfl).2 51 rfl
          have ocn : ∀ v, ρ (.const v) = v := fun v => hout (.const v) rfl
          have ofn : ∀ f, ρ (.func f) = .func (.func f) #[] #[] := fun f => hout (.func f) rfl
          clear hdep hout
          refine .inl ⟨?_, ?_⟩
          · show (y 7 == some true) = true
            rw [yg]; rfl
          show Gives _ _ _ (Value.slice (some { block := y5.heap.size, off := 0 }) 3 3) _
          refine Gives.val ?_
          go_simp
        rcases i with _ | i
        · obtain rfl := Option.some.inj ho
          have e10 : ρ (.tmp 54) = Value.slice (some { block := y5.heap.size, off := 0 }) 3 3 := (hdep ⟨10, .data⟩ (by simp) rfl).1 54 rfl
          have yg : y 7 = some true := (hdep ⟨7, .guard⟩ (by simp) rfl).2 51 rfl
          have ocn : ∀ v, ρ (.const v) = v := fun v => hout (.const v) rfl
          have ofn : ∀ f, ρ (.func f) = .func (.func f) #[] #[] := fun f => hout (.func f) rfl
          clear hdep hout
          refine .inl ⟨?_, ?_⟩
          · show (y 7 == some true) = true
            rw [yg]; rfl
          show Gives _ _ _ (.pointer (some ⟨y5.heap.size, 1, none⟩)) _
          refine Gives.val ?_
          go_simp
        rcases i with _ | i
        · obtain rfl := Option.some.inj ho
          have e11 : ρ (.tmp 55) = .pointer (some ⟨y5.heap.size, 1, none⟩) := (hdep ⟨11, .data⟩ (by simp) rfl).1 55 rfl
          have yg : y 7 = some true := (hdep ⟨7, .guard⟩ (by simp) rfl).2 51 rfl
          have ocn : ∀ v, ρ (.const v) = v := fun v => hout (.const v) rfl
          have ofn : ∀ f, ρ (.func f) = .func (.func f) #[] #[] := fun f => hout (.func f) rfl
          clear hdep hout
          refine .inl ⟨?_, ?_⟩
          · show (y 7 == some true) = true
            rw [yg]; rfl
          obtain ⟨n, k0, k1, k2, f0, f1, f2⟩ := IF.later hBx
          show Gives _ _ _ (.int .i64 c1) _
          refine Gives.val ?_
          go_simp
        rcases i with _ | i
        · obtain rfl := Option.some.inj ho
          have e12 : ρ (.tmp 56) = .int .i64 c1 := (hdep ⟨12, .data⟩ (by simp) rfl).1 56 rfl
          have yg : y 7 = some true := (hdep ⟨7, .guard⟩ (by simp) rfl).2 51 rfl
          have ocn : ∀ v, ρ (.const v) = v := fun v => hout (.const v) rfl
          have ofn : ∀ f, ρ (.func f) = .func (.func f) #[] #[] := fun f => hout (.func f) rfl
          clear hdep hout
          refine .inl ⟨?_, ?_⟩
          · show (y 7 == some true) = true
            rw [yg]; rfl
          have hq := Q1.out
          show Gives _ _ _ (.bool m1) _
          refine Gives.val ?_
          go_simp
        rcases i with _ | i
        · obtain rfl := Option.some.inj ho
          have e9 : ρ (.tmp 53) = .bool m1 := (hdep ⟨9, .data⟩ (by simp) rfl).1 53 rfl
          have e13 : ρ (.tmp 57) = .bool m1 := (hdep ⟨13, .data⟩ (by simp) rfl).1 57 rfl
          have yg : y 7 = some true := (hdep ⟨7, .guard⟩ (by simp) rfl).2 51 rfl
          have ocn : ∀ v, ρ (.const v) = v := fun v => hout (.const v) rfl
          have ofn : ∀ f, ρ (.func f) = .func (.func f) #[] #[] := fun f => hout (.func f) rfl
          clear hdep hout
          refine .inl ⟨?_, ?_⟩
          · show (y 7 == some true) = true
            rw [yg]; rfl
          show Gives _ _ _ (.bool true) _
          refine Gives.val ?_
          go_simp
        rcases i with _ | i
        · obtain rfl := Option.some.inj ho
          have e7 : ρ (.tmp 51) = .bool true := (hdep ⟨7, .data⟩ (by simp) rfl).1 51 rfl
          have e14 : ρ (.tmp 58) = .bool true := (hdep ⟨14, .data⟩ (by simp) rfl).1 58 rfl
          have ocn : ∀ v, ρ (.const v) = v := fun v => hout (.const v) rfl
          have ofn : ∀ f, ρ (.func f) = .func (.func f) #[] #[] := fun f => hout (.func f) rfl
          clear hdep hout
          refine .inl ⟨?_, ?_⟩
          · rfl
          show Gives _ _ _ (.bool true) _
          refine Gives.val ?_
          go_simp
        rcases i with _ | i
        · obtain rfl := Option.some.inj ho
          have e15 : ρ (.tmp 59) = .bool true := (hdep ⟨15, .data⟩ (by simp) rfl).1 59 rfl
          have ocn : ∀ v, ρ (.const v) = v := fun v => hout (.const v) rfl
          have ofn : ∀ f, ρ (.func f) = .func (.func f) #[] #[] := fun f => hout (.func f) rfl
          clear hdep hout
          refine .inl ⟨?_, ?_⟩
          · rfl
          show Gives _ _ _ (.bool true) _
          refine Gives.val ?_
          go_simp
        rcases i with _ | i
        · obtain rfl := Option.some.inj ho
          have o4 : ρ (.tmp 4) = v1 := hout (.tmp 4) rfl
          have yg : y 16 = some true := (hdep ⟨16, .guard⟩ (by simp) rfl).2 60 rfl
          have ocn : ∀ v, ρ (.const v) = v := fun v => hout (.const v) rfl
          have ofn : ∀ f, ρ (.func f) = .func (.func f) #[] #[] := fun f => hout (.func f) rfl
          clear hdep hout
          refine .inl ⟨?_, ?_⟩
          · show (y 16 == some true) = true
            rw [yg]; rfl
          show Gives _ _ _ (v1) _
          refine Gives.val ?_
          go_simp
        rcases i with _ | i
        · obtain rfl := Option.some.inj ho
          have e17 : ρ (.tmp 61) = v1 := (hdep ⟨17, .data⟩ (by simp) rfl).1 61 rfl
          have yg : y 16 = some true := (hdep ⟨16, .guard⟩ (by simp) rfl).2 60 rfl
          have ocn : ∀ v, ρ (.const v) = v := fun v => hout (.const v) rfl
          have ofn : ∀ f, ρ (.func f) = .func (.func f) #[] #[] := fun f => hout (.func f) rfl
          clear hdep hout
          refine .inl ⟨?_, ?_⟩
          · show (y 16 == some true) = true
            rw [yg]; rfl
          show Gives _ _ _ (.bool m2) _
          refine Gives.call (lgHas_at (O1.later hBx) M2.out) ?_
          go_simp
        rcases i with _ | i
        · obtain rfl := Option.some.inj ho
          have o5 : ρ (.tmp 5) = Value.slice (some { block := y5.heap.size, off := 0 }) 3 3 := hout (.tmp 5) rfl
          have yg : y 16 = some true := (hdep ⟨16, .guard⟩ (by simp) rfl).2 60 rfl
          have ocn : ∀ v, ρ (.const v) = v := fun v => hout (.const v) rfl
          have ofn : ∀ f, ρ (.func f) = .func (.func f) #[] #[] := fun f => hout (.func f) rfl
          clear hdep hout
          refine .inl ⟨?_, ?_⟩
          · show (y 16 == some true) = true
            rw [yg]; rfl
          show Gives _ _ _ (Value.slice (some { block := y5.heap.size, off := 0 }) 3 3) _
          refine Gives.val ?_
          go_simp
        rcases i with _ | i
        · obtain rfl := Option.some.inj ho
          have e19 : ρ (.tmp 63) = Value.slice (some { block := y5.heap.size, off := 0 }) 3 3 := (hdep ⟨19, .data⟩ (by simp) rfl).1 63 rfl
          have yg : y 16 = some true := (hdep ⟨16, .guard⟩ (by simp) rfl).2 60 rfl
          have ocn : ∀ v, ρ (.const v) = v := fun v => hout (.const v) rfl
          have ofn : ∀ f, ρ (.func f) = .func (.func f) #[] #[] := fun f => hout (.func f) rfl
          clear hdep hout
          refine .inl ⟨?_, ?_⟩
          · show (y 16 == some true) = true
            rw [yg]; rfl
          show Gives _ _ _ (.pointer (some ⟨y5.heap.size, 2, none⟩)) _
          refine Gives.val ?_
          go_simp
        rcases i with _ | i
        · obtain rfl := Option.some.inj ho
          have e20 : ρ (.tmp 64) = .pointer (some ⟨y5.heap.size, 2, none⟩) := (hdep ⟨20, .data⟩ (by simp) rfl).1 64 rfl
          have yg : y 16 = some true := (hdep ⟨16, .guard⟩ (by simp) rfl).2 60 rfl
          have ocn : ∀ v, ρ (.const v) = v := fun v => hout (.const v) rfl
          have ofn : ∀ f, ρ (.func f) = .func (.func f) #[] #[] := fun f => hout (.func f) rfl
          clear hdep hout
          refine .inl ⟨?_, ?_⟩
          · show (y 16 == some true) = true
            rw [yg]; rfl
          obtain ⟨n, k0, k1, k2, f0, f1, f2⟩ := IF.later hBx
          show Gives _ _ _ (.int .i64 c2) _
          refine Gives.val ?_
          go_simp
        rcases i with _ | i
        · obtain rfl := Option.some.inj ho
          have e21 : ρ (.tmp 65) = .int .i64 c2 := (hdep ⟨21, .data⟩ (by simp) rfl).1 65 rfl
          have yg : y 16 = some true := (hdep ⟨16, .guard⟩ (by simp) rfl).2 60 rfl
          have ocn : ∀ v, ρ (.const v) = v := fun v => hout (.const v) rfl
          have ofn : ∀ f, ρ (.func f) = .func (.func f) #[] #[] := fun f => hout (.func f) rfl
          clear hdep hout
          refine .inl ⟨?_, ?_⟩
          · show (y 16 == some true) = true
            rw [yg]; rfl
          have hq := Q2.out
          show Gives _ _ _ (.bool m2) _
          refine Gives.val ?_
          go_simp
        rcases i with _ | i
        · obtain rfl := Option.some.inj ho
          have e18 : ρ (.tmp 62) = .bool m2 := (hdep ⟨18, .data⟩ (by simp) rfl).1 62 rfl
          have e22 : ρ (.tmp 66) = .bool m2 := (hdep ⟨22, .data⟩ (by simp) rfl).1 66 rfl
          have yg : y 16 = some true := (hdep ⟨16, .guard⟩ (by simp) rfl).2 60 rfl
          have ocn : ∀ v, ρ (.const v) = v := fun v => hout (.const v) rfl
          have ofn : ∀ f, ρ (.func f) = .func (.func f) #[] #[] := fun f => hout (.func f) rfl
          clear hdep hout
          refine .inl ⟨?_, ?_⟩
          · show (y 16 == some true) = true
            rw [yg]; rfl
          show Gives _ _ _ (.bool true) _
          refine Gives.val ?_
          go_simp
        rcases i with _ | i
        · obtain rfl := Option.some.inj ho
          have e16 : ρ (.tmp 60) = .bool true := (hdep ⟨16, .data⟩ (by simp) rfl).1 60 rfl
          have e23 : ρ (.tmp 67) = .bool true := (hdep ⟨23, .data⟩ (by simp) rfl).1 67 rfl
          have ocn : ∀ v, ρ (.const v) = v := fun v => hout (.const v) rfl
          have ofn : ∀ f, ρ (.func f) = .func (.func f) #[] #[] := fun f => hout (.func f) rfl
          clear hdep hout
          refine .inl ⟨?_, ?_⟩
          · rfl
          show Gives _ _ _ (.bool true) _
          refine Gives.val ?_
          go_simp
        rcases i with _ | i
        · obtain rfl := Option.some.inj ho
          have e24 : ρ (.tmp 68) = .bool true := (hdep ⟨24, .data⟩ (by simp) rfl).1 68 rfl
          have ocn : ∀ v, ρ (.const v) = v := fun v => hout (.const v) rfl
          have ofn : ∀ f, ρ (.func f) = .func (.func f) #[] #[] := fun f => hout (.func f) rfl
          clear hdep hout
          refine .inl ⟨?_, ?_⟩
          · rfl
          show Gives _ _ _ (.bool true) _
          refine Gives.val ?_
          go_simp
        cases ho
      case fin =>
        intro x hBx
        go_wp2_with fail
        go_ret
        exact ⟨rfl, hB.trans (hBx.mono hB.size)⟩

end Go.Proofs.Ytlnfjjciilieeaa
