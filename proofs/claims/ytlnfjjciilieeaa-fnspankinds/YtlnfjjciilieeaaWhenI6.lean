/-
  The contract of the program's SpanWhen where it is asked whether one is same, of two spans that are not none.
-/
import Derived.Test.YtlnfjjciilieeaaWhenI
namespace Go.Proofs.Ytlnfjjciilieeaa
open Go.RowKit
set_option linter.unusedVariables false
set_option linter.unusedSimpArgs false
attribute [local go_sem ↓] Go.wp_at_zero Go.wp_at_succ

set_option maxHeartbeats 4000000 in
theorem when_impl_6 (al ah bl bh : Int) (yes : Bool) (w : World) (hbo : bothF true al ah true bl bh = true) :
    Calls Try.prog 13 #[.int .i64 6, .agg #[.bool true, .int .i64 al, .int .i64 ah], .agg #[.bool true, .int .i64 bl, .int .i64 bh], .bool yes] w fun e w' => WhRet 6 true al ah true bl bh yes w e w' := by
  have hD := deedOf_any 6
  have hbo' : Hid (bothF true al ah true bl bh = true) := hbo
  have HG : Hid (∀ a b, giveF 6 a b = rawF 6 a b) := fun a b => give_when (by omega)
  obtain ⟨_, _, ha1, ha2, haa, hb1, hb2, hbb⟩ := both_t hbo
  clear hbo
  go_enter Try.func13, Try.ntmps13
  go_wp2_with fail
  refine (both_impl _ _ _ _ _ _ _).mono ?_
  rintro e w1 ⟨rfl, hr1⟩
  rw [hbo'.out]
  have hS1 : WhSt w w1 al ah bl bh noSp noSp := by
    refine WhSt.later ⟨by go_grown, ?_, ?_, ?_, ?_, ?_, ?_⟩ hr1
    all_goals exact ⟨by go_size, by simp [go_sem, noSp], by simp [go_sem, noSp], by simp [go_sem, noSp], by simp [go_sem], by simp [go_sem], by simp [go_sem]⟩
  clear hr1
  go_wp2_with fail
  refine (hD _).mono ?_
  rintro e w2 ⟨rfl, hr2⟩
  have hst := hS1.later hr2
  clear hS1 hr2 hD
  obtain ⟨nA, cA0, cA1, cA2, fA0, fA1, fA2⟩ := id hst.sa
  go_wp2_with fail
  clear nA cA0 cA1 cA2 fA0 fA1 fA2
  go_loopw [13] (fun i x => ∃ (n : Int) (s t : Sp), i = .int .i64 n ∧ al ≤ n ∧ n ≤ ah + 1 ∧ Hull (SeenA 6 al bl bh yes n bl) s ∧ Hull (SeenB 6 al bl bh yes n bl) t ∧ WhSt w x al ah bl bh s t) (fun i _ => (ah + 1 - intOf i).toNat)
  case atStart => exact ⟨al, noSp, noSp, rfl, by omega, by omega, Hull.empty (seenA_zero _ _ _ _ _), Hull.empty (seenB_zero _ _ _ _ _), hst⟩
  case round =>
    clear hst
    obtain ⟨n, s, t, rfl, hn1, hn2, hH, hJ, hS⟩ := hrel
    obtain ⟨nA, cA0, cA1, cA2, fA0, fA1, fA2⟩ := id hS.sa
    by_cases hlt : n ≤ ah
    · obtain ⟨nB, cB0, cB1, cB2, fB0, fB1, fB2⟩ := id hS.sb
      go_wp2_with fail
      clear nA cA0 cA1 cA2 fA0 fA1 fA2 nB cB0 cB1 cB2 fB0 fB1 fB2
      go_loopw [14] (fun i x => ∃ (y : Int) (s t : Sp), i = .int .i64 y ∧ bl ≤ y ∧ y ≤ bh + 1 ∧ Hull (SeenA 6 al bl bh yes n y) s ∧ Hull (SeenB 6 al bl bh yes n y) t ∧ WhSt w x al ah bl bh s t) (fun i _ => (bh + 1 - intOf i).toNat)
      case atStart => exact ⟨bl, s, t, rfl, by omega, by omega, hH, hJ, hS⟩
      case round =>
        clear hS hH hJ
        obtain ⟨y, s, t, rfl, hy1, hy2, hH, hJ, hS⟩ := hrel
        obtain ⟨nB, cB0, cB1, cB2, fB0, fB1, fB2⟩ := id hS.sb
        by_cases hly : y ≤ bh
        · go_wp2_with fail
          rw [deed_enter, Oper.upon_enter]
          refine (deed_any 6 n y _ (by omega) (by omega) (by omega) (by omega)).mono ?_
          rintro e w' ⟨rfl, rfl⟩
          rw [HG.out]
          by_cases hq : rawF 6 n y = oneF yes
          · have hH3 := (hH.add n).congr (seenA_yes hn1 hy1 hly hq)
            have hJ3 := (hJ.add y).congr (seenB_yes hn1 hy1 hly hq)
            rw [hq]
            clear hq hH hJ
            have hone : ∀ x : World, Calls Try.prog 44 #[.bool yes] x fun e w' => e = .returned (.int .i64 (oneF yes)) ∧ w' = x := fun x => oneIf_any yes x
            generalize oneF yes = Z at hone ⊢
            go_wp2_with (go_at_call 44; refine (hone _).mono ?_; rintro e w' ⟨rfl, rfl⟩)
            clear hone nB cB0 cB1 cB2 fB0 fB1 fB2
            obtain ⟨n3, c30, c31, c32, f30, f31, f32⟩ := id hS.s1
            obtain ⟨n4, c40, c41, c42, f40, f41, f42⟩ := id hS.s2
            have n3' := Nat.lt_succ_of_lt n3
            have n4' := Nat.lt_succ_of_lt n4
            simp only [Nat.succ_eq_add_one] at n3' n4'
            have hne : ¬ w.heap.size + 1 + 1 + 1 + 1 = w.heap.size + 1 + 1 + 1 + 1 + 1 := by omega
            go_region_with (first | (go_at_call 45; refine (stretchW _ _ _ n _ _ ?hc ?hb).mono ?_; (case hc => first | (simp [go_sem]; done) | (rw [hcb _ _ (by go_size)]; simp [go_sem]; done) | (simp [go_sem, *]; done)); (case hb => first | go_size | (refine hlb _ ?_; go_size) | (simp [*]; done)); rintro e wa ⟨hsa, hba⟩; obtain ⟨aa, la, ua, hxa, rfl⟩ := hsa.out; obtain ⟨hca, hfa⟩ := bcell hba; have hla := below_lt hba; have hSa : WhSt w wa al ah bl bh s t := (by first | exact WhSt.later (by assumption) hba | exact WhSt.later (WhSt.alloc (by assumption) _) hba | exact WhSt.later (WhSt.drew (WhSt.alloc (by assumption) _)) hba | exact WhSt.later (WhSt.drew (WhSt.alloc (WhSt.alloc (by assumption) _) _)) hba); obtain ⟨n3, c30, c31, c32, f30, f31, f32⟩ := id hSa.s1; obtain ⟨n4, c40, c41, c42, f40, f41, f42⟩ := id hSa.s2) | (go_at_call 45; refine (stretchW _ _ _ y _ _ ?hc ?hb).mono ?_; (case hc => first | (simp [go_sem]; done) | (rw [hca _ _ (by go_size)]; simp [go_sem]; done) | (simp [go_sem, *]; done)); (case hb => first | go_size | (refine hla _ ?_; go_size) | (simp [*]; done)); rintro e wb ⟨hsb, hbb⟩; obtain ⟨ab, lb, ub, hxb, rfl⟩ := hsb.out; obtain ⟨hcb, hfb⟩ := bcell hbb; have hlb := below_lt hbb; have hSb : WhSt w wb al ah bl bh s t := (by first | exact WhSt.later (by assumption) hbb | exact WhSt.later (WhSt.alloc (by assumption) _) hbb | exact WhSt.later (WhSt.drew (WhSt.alloc (by assumption) _)) hbb | exact WhSt.later (WhSt.drew (WhSt.alloc (WhSt.alloc (by assumption) _) _)) hbb); obtain ⟨n3, c30, c31, c32, f30, f31, f32⟩ := id hSb.s1; obtain ⟨n4, c40, c41, c42, f40, f41, f42⟩ := id hSb.s2))
            all_goals
              go_wp2_with fail
              go_roundw
              case rel =>
                exact ⟨y + 1, (aa, la, ua), (ab, lb, ub), by go_num, by omega, by omega, hull_eq hH3 hxa.out, hull_eq hJ3 hxb.out, hSb.setA.setB⟩
              case measure => simp [intOf]; omega
          · have hH3 := hH.congr (seenA_no hq)
            have hJ3 := hJ.congr (seenB_no hq)
            have hone : ∀ x : World, Calls Try.prog 44 #[.bool yes] x fun e w' => e = .returned (.int .i64 (oneF yes)) ∧ w' = x := fun x => oneIf_any yes x
            have hq' : (rawF 6 n y == oneF yes) = false := by simpa using hq
            clear hq hH hJ
            generalize rawF 6 n y = Z at hq' ⊢
            generalize oneF yes = Y at hq' hone
            go_wp2_with (go_at_call 44; refine (hone _).mono ?_; rintro e w' ⟨rfl, rfl⟩)
            go_roundw
            case rel => exact ⟨y + 1, s, t, by go_num, by omega, by omega, hH3, hJ3, hS⟩
            case measure => simp [intOf]; omega
        · go_wp2_with fail
          go_roundw
          case rel => exact ⟨n + 1, s, t, by go_num, by omega, by omega, hH.congr (seenA_row (by omega)), hJ.congr (seenB_row (by omega)), hS⟩
          case measure => simp [intOf]; omega
    · have hn : n = ah + 1 := by omega
      have hW : Hid (WhenIs 6 true al ah true bl bh yes s t) := by
        refine ⟨fun h => ?_, fun _ _ => ⟨hH.congr (seenA_fst hn), hJ.congr (seenB_snd hn)⟩⟩
        rcases h with h | h
        · simp [hbo'.out] at h
        · omega
      clear hn hH hJ
      obtain ⟨n1, c10, c11, c12, f10, f11, f12⟩ := id hS.r1
      obtain ⟨n2, c20, c21, c22, f20, f21, f22⟩ := id hS.r2
      obtain ⟨n3, c30, c31, c32, f30, f31, f32⟩ := id hS.s1
      obtain ⟨n4, c40, c41, c42, f40, f41, f42⟩ := id hS.s2
      have hB := hS.bel
      go_wp2_with fail
      go_region
      all_goals
        go_wp2_with fail
        refine bodyPost_ret (v := .tuple #[.agg #[.bool s.1, .int .i64 s.2.1, .int .i64 s.2.2], .agg #[.bool t.1, .int .i64 t.2.1, .int .i64 t.2.2]]) (by simp [results, Try.results13, go_sem, n1, n2, c10, c11, c12, c20, c21, c22]) rfl ⟨s, t, hW.out, rfl, ?_⟩
        exact Below.drew ((((((hB.setCell (by simp; omega) _).setCell (by simp; omega) _).setCell (by simp; omega) _).setCell (by simp; omega) _).setCell (by simp; omega) _).setCell (by simp; omega) _)

end Go.Proofs.Ytlnfjjciilieeaa
