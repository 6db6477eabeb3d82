/-
  The walk of the exact law of RunNew.
-/
import Derived.Test.YtpogahhfdneagaaRNewI
import Derived.Test.YtpogahhfdneagaaRNewC
import Derived.Test.YtpogahhfdneagaaRNewD
namespace Go.Proofs.Ytpogahhfdneagaa
open Go.RowKit
set_option linter.unusedVariables false
set_option linter.unusedSimpArgs false

theorem B7.off {x : World} {m : Nat} {s : Value} (h : B7 x m s) {B E : Nat} {y : World} (hw : Within B E x y) (hm : m < B ∨ E ≤ m) : B7 y m s :=
  ⟨by rw [← hw.sz]; exact h.lt, (hw.cell _ _ hm).trans h.c0, (hw.cell _ _ hm).trans h.c1, (hw.cell _ _ hm).trans h.c2, (hw.cell _ _ hm).trans h.c3, (hw.cell _ _ hm).trans h.c4, (hw.cell _ _ hm).trans h.c5, (hw.cell _ _ hm).trans h.c6⟩
theorem RunAt.shape {x : World} {B E : Nat} {v : Value} {o : Option (Nat → Int)} (h : RunAt x B E v o) : ∃ p n cap, v = aggR (.slice p n cap) := by
  cases o with
  | none => obtain ⟨p, cap, rfl⟩ := h; exact ⟨p, 0, cap, rfl⟩
  | some N => obtain ⟨g, _, _, cap, rfl, _⟩ := h; exact ⟨_, 1, cap, rfl⟩

set_option maxRecDepth 100000 in
set_option maxHeartbeats 8000000 in
theorem exactRunNew_walk (s0 : Option Addr) (n0 cap0 : Nat) (P : List (List I4)) (w : World) (hP : ProgAt w 0 (.slice s0 n0 cap0) P) :
    Calls Try.prog 6 #[.slice s0 n0 cap0] w fun e w' => e = .returned (.bool true) ∧ Below w.heap.size w w' := by
  have HP : Hid (ProgAt w 0 (.slice s0 n0 cap0) P) := hP
  clear hP
  go_enter Try.func6, Try.ntmps6
  go_wp2_with fail
  refine (szProcS_any _ 0 _ P HP.out).mono ?_
  rintro e w1 ⟨r, rfl, hr, hr1, hb1⟩
  have HR0 : Hid (0 ≤ r → P.length ≤ 1048576 ∧ ∀ j, j < P.length → (P.getD j []).length ≤ 1048576) := hr
  have HB_w1 : Hid (Below w.heap.size w w1) := hb1
  clear hr hb1 hr1
  by_cases hneg : r < 0
  · go_wp2_with fail
    go_ret
    exact ⟨rfl, HB_w1.out⟩
  have HN : Hid (P.length ≤ 1048576 ∧ ∀ j, j < P.length → (P.getD j []).length ≤ 1048576) := HR0.out (by omega)
  clear HR0
  have HSP : Hid (∀ (z : World) (v : Value) (D : Nat), ProgAt z D v P → Calls Try.prog 30 #[v] z fun e y => ∃ r, e = .returned r ∧ RunAt y z.heap.size y.heap.size r (newF P) ∧ Below z.heap.size z y) := fun z v D hp => runNew_spec z D v P hp
  have HIM : Hid (∀ (z : World) (v : Value) (D : Nat), ProgAt z D v P → Calls Try.prog 31 #[v] z fun e y => ∃ r, e = .returned r ∧ RunAt y z.heap.size y.heap.size r (newF P) ∧ Below z.heap.size z y) := fun z v D hp => runNew_impl z D v P hp
  generalize newF P = S at HSP HIM
  go_wp2_with fail
  refine (toProcS_any _ 0 _ P (HP.out.later HB_w1.out) HN.out.1 HN.out.2).mono ?_
  rintro e w2 ⟨u2, rfl, hP2, hb2⟩
  have hs2 := HB_w1.out.size
  have HB_w2 : Hid (Below w.heap.size w w2) := HB_w1.out.trans (hb2.mono HB_w1.out.size)
  clear HB_w1
  have hs2b := hb2.size
  clear hb2
  go_wp2_with fail
  refine (HSP.out w2 u2 _ hP2).mono ?_
  rintro e wA ⟨va, rfl, hRA, hbA⟩
  have hsA := hbA.size
  obtain ⟨pa, na, ca, rfl⟩ := hRA.shape
  have HB_wA : Hid (Below w.heap.size w wA) := HB_w2.out.trans (hbA.mono HB_w2.out.size)
  clear HB_w2
  have HR_wA : Hid (RunAt wA w2.heap.size wA.heap.size (aggR (.slice pa na ca)) S) := hRA
  clear hRA hbA hP2 HSP
  unfold aggR
  go_wp2_with fail
  generalize hbx : wA.alloc (.cells #[.slice pa na ca, .int .i64 0, .int .i64 0, .int .i64 0, .int .i64 0, .int .i64 0, .int .i64 0] 56) = wB
  have hbl : Below wA.heap.size wA wB := by rw [← hbx]; exact (Below.refl _ _).alloc (Nat.le_refl _) _
  have HX_wB : Hid (B7 wB wA.heap.size (.slice pa na ca)) := by show B7 _ _ _; rw [← hbx]; exact B7.new _ _ _
  have hszwB : wA.heap.size < wB.heap.size := by rw [← hbx]; simp
  clear hbx
  have HB_wB : Hid (Below w.heap.size w wB) := HB_wA.out.trans (hbl.mono HB_wA.out.size)
  have HR_wB : Hid (RunAt wB w2.heap.size wA.heap.size (aggR (.slice pa na ca)) S) := HR_wA.out.later hbl
  clear HB_wA HR_wA
  clear hbl
  refine (toProcS_free _ 0 _ P (HP.out.later HB_wB.out) HN.out.1 HN.out.2).mono ?_
  rintro e w4 ⟨u4, rfl, hP4, hb4⟩
  have hs4 := hb4.size
  have HB_w4 : Hid (Below w.heap.size w w4) := HB_wB.out.trans (hb4.mono HB_wB.out.size)
  have HR_w4 : Hid (RunAt w4 w2.heap.size wA.heap.size (aggR (.slice pa na ca)) S) := HR_wB.out.later hb4
  have HX_w4 : Hid (B7 w4 wA.heap.size (.slice pa na ca)) := HX_wB.out.later hb4
  clear HB_wB HR_wB HX_wB
  have HF1_w4 : Hid (FreeP w4 wB.heap.size w4.heap.size u4 P) := hP4
  clear hP4 hb4
  go_wp2_with fail
  refine (HIM.out w4 u4 _ (HF1_w4.out.prog (by have := HN.out.1; unfold maxLen; omega))).mono ?_
  rintro e w7 ⟨vg, rfl, hRG, hb7⟩
  have hs7 := hb7.size
  obtain ⟨pg, ng, cg, rfl⟩ := hRG.shape
  have HB_w7 : Hid (Below w.heap.size w w7) := HB_w4.out.trans (hb7.mono HB_w4.out.size)
  have HR_w7 : Hid (RunAt w7 w2.heap.size wA.heap.size (aggR (.slice pa na ca)) S) := HR_w4.out.later hb7
  have HX_w7 : Hid (B7 w7 wA.heap.size (.slice pa na ca)) := HX_w4.out.later hb7
  have HF1_w7 : Hid (FreeP w7 wB.heap.size w4.heap.size u4 P) := HF1_w4.out.later hb7
  clear HB_w4 HR_w4 HX_w4 HF1_w4
  have HG_w7 : Hid (RunAt w7 w4.heap.size w7.heap.size (aggR (.slice pg ng cg)) S) := hRG
  clear hRG hb7
  unfold aggR
  have x7 := HX_w7.out
  obtain ⟨_, a0, a1, a2, a3, a4, a5, a6⟩ := x7
  have l7 := HX_w7.out.lt
  have HXA : Hid (B7 (w7.alloc (.cells #[.slice pg ng cg, .int .i64 0, .int .i64 0, .int .i64 0, .int .i64 0, .int .i64 0, .int .i64 0] 56)) wA.heap.size (.slice pa na ca)) := HX_w7.out.later ((Below.refl _ _).alloc (Nat.le_refl _) _)
  clear a0 a1 a2 a3 a4 a5 a6
  have xa := HXA.out
  obtain ⟨_, a0, a1, a2, a3, a4, a5, a6⟩ := xa
  go_wp2_with fail
  clear a0 a1 a2 a3 a4 a5 a6
  clear HXA l7
  generalize hbx : w7.alloc (.cells #[.slice pg ng cg, .int .i64 0, .int .i64 0, .int .i64 0, .int .i64 0, .int .i64 0, .int .i64 0] 56) = w8
  have hbl : Below w7.heap.size w7 w8 := by rw [← hbx]; exact (Below.refl _ _).alloc (Nat.le_refl _) _
  have HY_w8 : Hid (B7 w8 w7.heap.size (.slice pg ng cg)) := by show B7 _ _ _; rw [← hbx]; exact B7.new _ _ _
  have hszw8 : w7.heap.size < w8.heap.size := by rw [← hbx]; simp
  clear hbx
  have HB_w8 : Hid (Below w.heap.size w w8) := HB_w7.out.trans (hbl.mono HB_w7.out.size)
  have HR_w8 : Hid (RunAt w8 w2.heap.size wA.heap.size (aggR (.slice pa na ca)) S) := HR_w7.out.later hbl
  have HX_w8 : Hid (B7 w8 wA.heap.size (.slice pa na ca)) := HX_w7.out.later hbl
  have HF1_w8 : Hid (FreeP w8 wB.heap.size w4.heap.size u4 P) := HF1_w7.out.later hbl
  have HG_w8 : Hid (RunAt w8 w4.heap.size w7.heap.size (aggR (.slice pg ng cg)) S) := HG_w7.out.later hbl
  clear HB_w7 HR_w7 HX_w7 HF1_w7 HG_w7
  clear hbl
  refine (eqRun_same w8 _ _ _ _ _ _ S HG_w8.out HR_w8.out).mono ?_
  rintro e w9 ⟨rfl, hb9⟩
  have HB_w9 : Hid (Below w.heap.size w w9) := HB_w8.out.trans (hb9.mono HB_w8.out.size)
  have HR_w9 : Hid (RunAt w9 w2.heap.size wA.heap.size (aggR (.slice pa na ca)) S) := HR_w8.out.later hb9
  have HX_w9 : Hid (B7 w9 wA.heap.size (.slice pa na ca)) := HX_w8.out.later hb9
  have HF1_w9 : Hid (FreeP w9 wB.heap.size w4.heap.size u4 P) := HF1_w8.out.later hb9
  have HG_w9 : Hid (RunAt w9 w4.heap.size w7.heap.size (aggR (.slice pg ng cg)) S) := HG_w8.out.later hb9
  have HY_w9 : Hid (B7 w9 w7.heap.size (.slice pg ng cg)) := HY_w8.out.later hb9
  clear HB_w8 HR_w8 HX_w8 HF1_w8 HG_w8 HY_w8
  clear hb9
  go_wp2_with fail
  refine (toProcS_any _ 0 _ P (HP.out.later HB_w9.out) HN.out.1 HN.out.2).mono ?_
  rintro e wa ⟨ua, rfl, hPa, hba⟩
  have HB_wa : Hid (Below w.heap.size w wa) := HB_w9.out.trans (hba.mono HB_w9.out.size)
  have HR_wa : Hid (RunAt wa w2.heap.size wA.heap.size (aggR (.slice pa na ca)) S) := HR_w9.out.later hba
  have HX_wa : Hid (B7 wa wA.heap.size (.slice pa na ca)) := HX_w9.out.later hba
  have HF1_wa : Hid (FreeP wa wB.heap.size w4.heap.size u4 P) := HF1_w9.out.later hba
  have HG_wa : Hid (RunAt wa w4.heap.size w7.heap.size (aggR (.slice pg ng cg)) S) := HG_w9.out.later hba
  have HY_wa : Hid (B7 wa w7.heap.size (.slice pg ng cg)) := HY_w9.out.later hba
  clear HB_w9 HR_w9 HX_w9 HF1_w9 HG_w9 HY_w9
  clear hba
  go_wp2_with fail
  refine (eqProcS_same wa _ _ u4 ua P (HF1_wa.out.prog (by have := HN.out.1; unfold maxLen; omega)) hPa).mono ?_
  rintro e wb ⟨rfl, hbb⟩
  have HB_wb : Hid (Below w.heap.size w wb) := HB_wa.out.trans (hbb.mono HB_wa.out.size)
  have HR_wb : Hid (RunAt wb w2.heap.size wA.heap.size (aggR (.slice pa na ca)) S) := HR_wa.out.later hbb
  have HX_wb : Hid (B7 wb wA.heap.size (.slice pa na ca)) := HX_wa.out.later hbb
  have HF1_wb : Hid (FreeP wb wB.heap.size w4.heap.size u4 P) := HF1_wa.out.later hbb
  have HG_wb : Hid (RunAt wb w4.heap.size w7.heap.size (aggR (.slice pg ng cg)) S) := HG_wa.out.later hbb
  have HY_wb : Hid (B7 wb w7.heap.size (.slice pg ng cg)) := HY_wa.out.later hbb
  clear HB_wa HR_wa HX_wa HF1_wa HG_wa HY_wa
  clear hbb hPa
  go_wp2_with fail
  refine (markProcS_any wb _ _ u4 P HF1_wb.out HN.out.1 HN.out.2 1 (by omega) (by omega)).mono ?_
  rintro e wc ⟨K, rfl, hK0, hK1, hWc⟩
  have HB_wc : Hid (Below w.heap.size w wc) := HB_wb.out.trans (hWc.below.mono (by omega))
  have HR_wc : Hid (RunAt wc w2.heap.size wA.heap.size (aggR (.slice pa na ca)) S) := HR_wb.out.within hWc (by omega)
  have HX_wc : Hid (B7 wc wA.heap.size (.slice pa na ca)) := HX_wb.out.off hWc (by omega)
  have HG_wc : Hid (RunAt wc w4.heap.size w7.heap.size (aggR (.slice pg ng cg)) S) := HG_wb.out.within hWc (by omega)
  have HY_wc : Hid (B7 wc w7.heap.size (.slice pg ng cg)) := HY_wb.out.off hWc (by omega)
  clear HB_wb HR_wb HX_wb HF1_wb HG_wb HY_wb hWc
  have hKn : ¬ K < 0 := by omega
  clear hK0 hK1
  have q_HXwc := HX_wc.out
  obtain ⟨_, a0, a1, a2, a3, a4, a5, a6⟩ := q_HXwc
  have q_HYwc := HY_wc.out
  obtain ⟨_, b0, b1, b2, b3, b4, b5, b6⟩ := q_HYwc
  go_wp2_with fail
  clear a0 a1 a2 a3 a4 a5 a6
  clear b0 b1 b2 b3 b4 b5 b6
  refine (eqRun_same wc _ _ _ _ _ _ S HG_wc.out HR_wc.out).mono ?_
  rintro e wd ⟨rfl, hbd⟩
  have HB_wd : Hid (Below w.heap.size w wd) := HB_wc.out.trans (hbd.mono HB_wc.out.size)
  have HR_wd : Hid (RunAt wd w2.heap.size wA.heap.size (aggR (.slice pa na ca)) S) := HR_wc.out.later hbd
  have HX_wd : Hid (B7 wd wA.heap.size (.slice pa na ca)) := HX_wc.out.later hbd
  have HG_wd : Hid (RunAt wd w4.heap.size w7.heap.size (aggR (.slice pg ng cg)) S) := HG_wc.out.later hbd
  have HY_wd : Hid (B7 wd w7.heap.size (.slice pg ng cg)) := HY_wc.out.later hbd
  clear HB_wc HR_wc HX_wc HG_wc HY_wc
  clear hbd
  have q_HYwd := HY_wd.out
  obtain ⟨_, b0, b1, b2, b3, b4, b5, b6⟩ := q_HYwd
  go_wp2_with fail
  clear b0 b1 b2 b3 b4 b5 b6
  refine (markRun_any wd _ _ _ S HG_wd.out).mono ?_
  rintro e we ⟨rfl, hMe, x1, hbx1, hWe⟩
  have HM_we : Hid (RunAt we w4.heap.size w7.heap.size (aggR (.slice pg ng cg)) (S.map fun _ => markN)) := hMe
  have HB_we : Hid (Below w.heap.size w we) := (HB_wd.out.trans (hbx1.mono HB_wd.out.size)).trans (hWe.below.mono (by omega))
  have HR_we : Hid (RunAt we w2.heap.size wA.heap.size (aggR (.slice pa na ca)) S) := (HR_wd.out.later hbx1).within hWe (by omega)
  have HX_we : Hid (B7 we wA.heap.size (.slice pa na ca)) := (HX_wd.out.later hbx1).off hWe (by omega)
  have HY_we : Hid (B7 we w7.heap.size (.slice pg ng cg)) := (HY_wd.out.later hbx1).off hWe (by omega)
  clear hMe hbx1 hWe HB_wd HR_wd HX_wd HY_wd HG_wd
  have hq0 := runK_pos S
  generalize hqq : runK S = q at hq0 ⊢
  have HH : Hid (∀ z : World, RunAt z w4.heap.size w7.heap.size (aggR (.slice pg ng cg)) (S.map fun _ => markN) → Calls Try.prog 34 #[aggR (.slice pg ng cg), .int .i64 1] z fun e y => e = .returned (.int .i64 q) ∧ Below z.heap.size z y) := fun z hz => by have := heldRun_same z _ _ _ S hz; rw [hqq] at this; exact this
  clear hqq
  have hqn : ¬ q < 0 := by omega
  have q_HYwe := HY_we.out
  obtain ⟨_, b0, b1, b2, b3, b4, b5, b6⟩ := q_HYwe
  go_wp2_with fail
  clear b0 b1 b2 b3 b4 b5 b6
  refine (HH.out we HM_we.out).mono ?_
  rintro e wf ⟨rfl, hbf⟩
  have HB_wf : Hid (Below w.heap.size w wf) := HB_we.out.trans (hbf.mono HB_we.out.size)
  have HR_wf : Hid (RunAt wf w2.heap.size wA.heap.size (aggR (.slice pa na ca)) S) := HR_we.out.later hbf
  have HX_wf : Hid (B7 wf wA.heap.size (.slice pa na ca)) := HX_we.out.later hbf
  have HY_wf : Hid (B7 wf w7.heap.size (.slice pg ng cg)) := HY_we.out.later hbf
  have HM_wf : Hid (RunAt wf w4.heap.size w7.heap.size (aggR (.slice pg ng cg)) (S.map fun _ => markN)) := HM_we.out.later hbf
  clear HB_we HR_we HX_we HY_we HM_we
  clear hbf
  go_wp2_with fail
  refine (toProcS_any _ 0 _ P (HP.out.later HB_wf.out) HN.out.1 HN.out.2).mono ?_
  rintro e wg ⟨ug, rfl, hPg, hbg⟩
  have HB_wg : Hid (Below w.heap.size w wg) := HB_wf.out.trans (hbg.mono HB_wf.out.size)
  have HR_wg : Hid (RunAt wg w2.heap.size wA.heap.size (aggR (.slice pa na ca)) S) := HR_wf.out.later hbg
  have HX_wg : Hid (B7 wg wA.heap.size (.slice pa na ca)) := HX_wf.out.later hbg
  have HY_wg : Hid (B7 wg w7.heap.size (.slice pg ng cg)) := HY_wf.out.later hbg
  have HM_wg : Hid (RunAt wg w4.heap.size w7.heap.size (aggR (.slice pg ng cg)) (S.map fun _ => markN)) := HM_wf.out.later hbg
  clear HB_wf HR_wf HX_wf HY_wf HM_wf
  clear hbg
  go_wp2_with fail
  refine (HIM.out wg ug _ hPg).mono ?_
  rintro e wh ⟨vh, rfl, hRH, hbh⟩
  obtain ⟨ph, nh, ch, rfl⟩ := hRH.shape
  have HB_wh : Hid (Below w.heap.size w wh) := HB_wg.out.trans (hbh.mono HB_wg.out.size)
  have HR_wh : Hid (RunAt wh w2.heap.size wA.heap.size (aggR (.slice pa na ca)) S) := HR_wg.out.later hbh
  have HX_wh : Hid (B7 wh wA.heap.size (.slice pa na ca)) := HX_wg.out.later hbh
  have HY_wh : Hid (B7 wh w7.heap.size (.slice pg ng cg)) := HY_wg.out.later hbh
  have HM_wh : Hid (RunAt wh w4.heap.size w7.heap.size (aggR (.slice pg ng cg)) (S.map fun _ => markN)) := HM_wg.out.later hbh
  clear HB_wg HR_wg HX_wg HY_wg HM_wg
  clear hbh hPg
  unfold aggR
  have HXA : Hid (B7 (wh.alloc (.cells #[.slice ph nh ch, .int .i64 0, .int .i64 0, .int .i64 0, .int .i64 0, .int .i64 0, .int .i64 0] 56)) wA.heap.size (.slice pa na ca)) := HX_wh.out.later ((Below.refl _ _).alloc (Nat.le_refl _) _)
  have xa := HXA.out
  obtain ⟨_, a0, a1, a2, a3, a4, a5, a6⟩ := xa
  go_wp2_with fail
  clear a0 a1 a2 a3 a4 a5 a6
  clear HXA
  have hbl : Below wh.heap.size wh (wh.alloc (.cells #[.slice ph nh ch, .int .i64 0, .int .i64 0, .int .i64 0, .int .i64 0, .int .i64 0, .int .i64 0] 56)) := (Below.refl _ _).alloc (Nat.le_refl _) _
  have HRH : Hid (RunAt (wh.alloc (.cells #[.slice ph nh ch, .int .i64 0, .int .i64 0, .int .i64 0, .int .i64 0, .int .i64 0, .int .i64 0] 56)) wg.heap.size wh.heap.size (aggR (.slice ph nh ch)) S) := hRH.later hbl
  generalize wh.alloc (.cells #[.slice ph nh ch, .int .i64 0, .int .i64 0, .int .i64 0, .int .i64 0, .int .i64 0, .int .i64 0] 56) = wi at hbl HRH ⊢
  have HB_wi : Hid (Below w.heap.size w wi) := HB_wh.out.trans (hbl.mono HB_wh.out.size)
  have HR_wi : Hid (RunAt wi w2.heap.size wA.heap.size (aggR (.slice pa na ca)) S) := HR_wh.out.later hbl
  have HX_wi : Hid (B7 wi wA.heap.size (.slice pa na ca)) := HX_wh.out.later hbl
  have HY_wi : Hid (B7 wi w7.heap.size (.slice pg ng cg)) := HY_wh.out.later hbl
  have HM_wi : Hid (RunAt wi w4.heap.size w7.heap.size (aggR (.slice pg ng cg)) (S.map fun _ => markN)) := HM_wh.out.later hbl
  clear HB_wh HR_wh HX_wh HY_wh HM_wh
  clear hbl hRH
  refine (eqRun_same wi _ _ _ _ _ _ S HRH.out HR_wi.out).mono ?_
  rintro e wj ⟨rfl, hbj⟩
  have HB_wj : Hid (Below w.heap.size w wj) := HB_wi.out.trans (hbj.mono HB_wi.out.size)
  have HY_wj : Hid (B7 wj w7.heap.size (.slice pg ng cg)) := HY_wi.out.later hbj
  have HM_wj : Hid (RunAt wj w4.heap.size w7.heap.size (aggR (.slice pg ng cg)) (S.map fun _ => markN)) := HM_wi.out.later hbj
  clear HB_wi HY_wi HM_wi
  clear hbj
  have q_HYwj := HY_wj.out
  obtain ⟨_, b0, b1, b2, b3, b4, b5, b6⟩ := q_HYwj
  go_wp2_with fail
  clear b0 b1 b2 b3 b4 b5 b6
  refine (HH.out wj HM_wj.out).mono ?_
  rintro e wk ⟨rfl, hbk⟩
  have hfin := HB_wj.out.trans (hbk.mono HB_wj.out.size)
  clear hbk HB_wj HY_wj HM_wj
  go_wp2_with fail
  go_ret
  exact ⟨rfl, hfin⟩

end Go.Proofs.Ytpogahhfdneagaa
