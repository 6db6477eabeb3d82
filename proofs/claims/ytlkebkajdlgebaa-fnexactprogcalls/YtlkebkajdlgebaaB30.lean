import Derived.Test.YtlkebkajdlgebaaB28
import Derived.Test.YtlkebkajdlgebaaB29
import Derived.Test.YtlkebkajdlgebaaB24
import Derived.Test.YtlkebkajdlgebaaB3
/-
  What a procedure calls: the contracts of ProgCalls, the program's and the model's.
-/
namespace Go.Proofs.Ytlkebkajdlgebaa
open Go.RowKit
set_option linter.unusedVariables false
set_option linter.unusedSimpArgs false

/-- what a procedure of a program calls -/
def progCallsF (P : List (List I4)) (k : Int) : List Int := if hasPF P k = true then callsL (P.getD k.toNat []) P.length else []
theorem progCallsF_len (P : List (List I4)) (k : Int) : (progCallsF P k).length ≤ P.length := by
  unfold progCallsF
  split
  · rw [callsL_true]; exact trueL_len _ _
  · simp

set_option maxHeartbeats 2000000 in
theorem progCalls_impl (x : World) (B : Nat) (v : Value) (P : List (List I4)) (h : ProgAt x B v P) (k : Int) :
    Calls Try.prog 8 #[v, .int .i64 k] x fun e y => ∃ v, e = .returned v ∧ IntsAt true y x.heap.size y.heap.size v (progCallsF P k) ∧ Below x.heap.size x y := by
  obtain ⟨p, cap, rfl, hm⟩ := h.shape
  have H : Hid (ProgAt x B (.slice p P.length cap) P) := h
  clear h hm
  obtain ⟨R, hR⟩ : ∃ R, progCallsF P k = R := ⟨_, rfl⟩
  rw [hR]
  have HR : Hid (progCallsF P k = R) := hR
  clear hR
  go_enter Try.func8, Try.ntmps8
  go_wp2_with fail
  refine (hasProc_impl _ B _ P H.out k).mono ?_
  rintro e y ⟨rfl, hb⟩
  cases hh : hasPF P k
  · go_wp2_with fail
    go_ret
    exact ⟨_, rfl, by rw [← HR.out]; unfold progCallsF; rw [hh]; exact IntsAt.nil, hb⟩
  · obtain ⟨kn, rfl, hkn, hok⟩ := hasPF_at hh
    obtain ⟨g, o, u, rfl, hg, hu, hc⟩ := H.out.code hkn
    obtain ⟨pk, ck, rfl, _⟩ := hc.shape
    have d0 := (hb.cell (p := ⟨g, o + kn, none⟩) hg).trans hu
    have hg2 : g < y.heap.size := Nat.lt_of_lt_of_le hg hb.size
    have HF : Hid (R = callsL (P.getD kn []) P.length) := by show _ = _; rw [← HR.out]; unfold progCallsF; rw [hh]; rfl
    have HC : Hid (CodeAt y B (.slice pk (P.getD kn []).length ck) (P.getD kn [])) := hc.later hb
    have HI := (progOkF_code hok hkn)
    have hl4 := (progOkF_len hok).2
    have HB : Hid (Below x.heap.size x y) := hb
    clear hc hu hh hok H hb HR
    generalize P.getD kn [] = C at *
    generalize P.length = n at *
    have hki : (kn : Int) < (n : Int) := by omega
    have hn4 : (n : Int) ≤ 4 := by omega
    go_wp2_with fail
    refine (callsOf_set y B _ C HC.out n HI.2 HI.1 hl4).mono ?_
    rintro e z ⟨v, rfl, hown, hb⟩
    have HO : Hid (IntsAt true z x.heap.size z.heap.size v (callsL C n) ∧ Below x.heap.size x z) := ⟨(hown.lower (by have := HB.out.size; omega)).ints, HB.out.trans (hb.mono HB.out.size)⟩
    clear hown hb
    go_wp2_with fail
    go_ret
    exact ⟨v, rfl, by rw [HF.out]; exact HO.out.1, HO.out.2⟩

set_option maxHeartbeats 2000000 in
theorem progCalls_spec (x : World) (B : Nat) (v : Value) (P : List (List I4)) (h : ProgAt x B v P) (k : Int) :
    Calls Try.prog 6 #[v, .int .i64 k] x fun e y => ∃ v, e = .returned v ∧ IntsAt true y x.heap.size y.heap.size v (progCallsF P k) ∧ Below x.heap.size x y := by
  obtain ⟨p, cap, rfl, hm⟩ := h.shape
  have H : Hid (ProgAt x B (.slice p P.length cap) P) := h
  clear h hm
  obtain ⟨R, hR⟩ : ∃ R, progCallsF P k = R := ⟨_, rfl⟩
  rw [hR]
  have HR : Hid (progCallsF P k = R) := hR
  clear hR
  go_enter Try.func6, Try.ntmps6
  go_wp2_with fail
  refine (l2Proc_any _ B _ P H.out k).mono ?_
  rintro e y ⟨rfl, hb⟩
  have HB : Hid (Below x.heap.size x y) := hb
  cases hh : hasPF P k
  · have HF : Hid (R = []) := by show _ = _; rw [← HR.out]; unfold progCallsF; rw [hh]; rfl
    clear hh
    go_wp2_with fail
    go_ret
    exact ⟨_, rfl, by rw [HF.out]; exact IntsAt.nil, HB.out.alloc HB.out.size _⟩
  · obtain ⟨kn, rfl, hkn, hok⟩ := hasPF_at hh
    have HF : Hid (R = callsL (P.getD kn []) P.length) := by show _ = _; rw [← HR.out]; unfold progCallsF; rw [hh]; rfl
    clear hh HR
    go_wp2_with fail
    refine (l2Calls_any y B _ P (H.out.later hb) hok kn hkn).mono ?_
    rintro e z ⟨v, rfl, hown, hb2⟩
    have HO : Hid (IntsAt true z x.heap.size z.heap.size v (callsL (P.getD kn []) P.length) ∧ Below x.heap.size x z) := ⟨(hown.lower HB.out.size).ints, HB.out.trans (hb2.mono HB.out.size)⟩
    clear hown hb hb2
    go_wp2_with fail
    go_ret
    exact ⟨v, rfl, by rw [HF.out]; exact HO.out.1, HO.out.2⟩

end Go.Proofs.Ytlkebkajdlgebaa

/-
  The walk of the exact law of ProgCalls.
-/
namespace Go.Proofs.Ytlkebkajdlgebaa
open Go.RowKit
set_option linter.unusedVariables false
set_option linter.unusedSimpArgs false

set_option maxRecDepth 100000 in
set_option maxHeartbeats 8000000 in
theorem exactProgCalls_walk (s0 : Option Addr) (n0 cap0 : Nat) (P : List (List I4)) (k : Int) (w : World) (hP : ProgAt w 0 (.slice s0 n0 cap0) P) (hk : (Lit.int .i64 k).wf = true) :
    Calls Try.prog 3 #[.slice s0 n0 cap0, .int .i64 k] w fun e w' => e = .returned (.bool true) ∧ Below w.heap.size w w' := by
  have HP : Hid (ProgAt w 0 (.slice s0 n0 cap0) P) := hP
  clear hP hk
  go_enter Try.func3, Try.ntmps3
  go_wp2_with fail
  refine (szProcS_any _ 0 _ P HP.out).mono ?_
  rintro e w1 ⟨r, rfl, hr, hr1, hb1⟩
  have HR0 : Hid (0 ≤ r → P.length ≤ 1048576 ∧ ∀ j, j < P.length → (P.getD j []).length ≤ 1048576) := hr
  have HB_w1 : Hid (Below w.heap.size w w1) := hb1
  clear hr hb1 hr1
  have hs0 := HB_w1.out.size
  by_cases hneg : r < 0
  · go_wp2_with fail
    go_ret
    exact ⟨rfl, HB_w1.out⟩
  have HN : Hid (P.length ≤ 1048576 ∧ ∀ j, j < P.length → (P.getD j []).length ≤ 1048576) := HR0.out (by omega)
  clear HR0
  have HSP : Hid (∀ (z : World) (v : Value) (D : Nat), ProgAt z D v P → Calls Try.prog 6 #[v, .int .i64 k] z fun e y => ∃ r, e = .returned r ∧ IntsAt true y z.heap.size y.heap.size r (progCallsF P k) ∧ Below z.heap.size z y) := fun z v D hp => progCalls_spec z D v P hp k
  have HIM : Hid (∀ (z : World) (v : Value) (D : Nat), ProgAt z D v P → Calls Try.prog 8 #[v, .int .i64 k] z fun e y => ∃ r, e = .returned r ∧ IntsAt true y z.heap.size y.heap.size r (progCallsF P k) ∧ Below z.heap.size z y) := fun z v D hp => progCalls_impl z D v P hp k
  have HL : Hid ((progCallsF P k).length ≤ 1048576) := Nat.le_trans (progCallsF_len P k) HN.out.1
  generalize progCallsF P k = R at HSP HIM HL
  go_wp2_with fail
  refine (toProcS_any _ 0 _ P (HP.out.later HB_w1.out) HN.out.1 HN.out.2).mono ?_
  rintro e w2 ⟨u2, rfl, hP2, hb2⟩
  have hs2 := hb2.size
  have HB_w2 : Hid (Below w.heap.size w w2) := HB_w1.out.trans (hb2.mono HB_w1.out.size)
  clear HB_w1
  clear hb2
  go_wp2_with fail
  refine (HSP.out w2 u2 _ hP2).mono ?_
  rintro e w3 ⟨va, rfl, hRA, hb3⟩
  have hs3 := hb3.size
  have HB_w3 : Hid (Below w.heap.size w w3) := HB_w2.out.trans (hb3.mono HB_w2.out.size)
  clear HB_w2
  have HR_w3 : Hid (IntsAt true w3 w2.heap.size w3.heap.size va R) := hRA
  clear hRA hb3 hP2 HSP
  go_wp2_with fail
  refine (toProcS_free _ 0 _ P (HP.out.later HB_w3.out) HN.out.1 HN.out.2).mono ?_
  rintro e w4 ⟨u4, rfl, hP4, hb4⟩
  have hs4 := hb4.size
  have HB_w4 : Hid (Below w.heap.size w w4) := HB_w3.out.trans (hb4.mono HB_w3.out.size)
  have HR_w4 : Hid (IntsAt true w4 w2.heap.size w3.heap.size va R) := HR_w3.out.later hb4
  clear HB_w3 HR_w3
  have HF_w4 : Hid (FreeP w4 w3.heap.size w4.heap.size u4 P) := hP4
  clear hP4 hb4
  go_wp2_with fail
  refine (HIM.out w4 u4 _ (HF_w4.out.prog (by have := HN.out.1; unfold maxLen; omega))).mono ?_
  rintro e w5 ⟨vg, rfl, hRG, hb5⟩
  have hs5 := hb5.size
  have HB_w5 : Hid (Below w.heap.size w w5) := HB_w4.out.trans (hb5.mono HB_w4.out.size)
  have HR_w5 : Hid (IntsAt true w5 w2.heap.size w3.heap.size va R) := HR_w4.out.later hb5
  have HF_w5 : Hid (FreeP w5 w3.heap.size w4.heap.size u4 P) := HF_w4.out.later hb5
  clear HB_w4 HR_w4 HF_w4
  have HG_w5 : Hid (IntsAt true w5 w4.heap.size w5.heap.size vg R) := hRG
  clear hRG hb5
  go_wp2_with fail
  refine (eqIntS_same w5 _ _ _ _ _ _ _ _ R HG_w5.out HR_w5.out).mono ?_
  rintro e w6 ⟨rfl, hb6⟩
  have HB_w6 : Hid (Below w.heap.size w w6) := HB_w5.out.trans (hb6.mono HB_w5.out.size)
  have HR_w6 : Hid (IntsAt true w6 w2.heap.size w3.heap.size va R) := HR_w5.out.later hb6
  have HF_w6 : Hid (FreeP w6 w3.heap.size w4.heap.size u4 P) := HF_w5.out.later hb6
  have HG_w6 : Hid (IntsAt true w6 w4.heap.size w5.heap.size vg R) := HG_w5.out.later hb6
  clear HB_w5 HR_w5 HF_w5 HG_w5
  clear hb6
  go_wp2_with fail
  refine (toProcS_any _ 0 _ P (HP.out.later HB_w6.out) HN.out.1 HN.out.2).mono ?_
  rintro e w7 ⟨u7, rfl, hP7, hb7⟩
  have HB_w7 : Hid (Below w.heap.size w w7) := HB_w6.out.trans (hb7.mono HB_w6.out.size)
  have HR_w7 : Hid (IntsAt true w7 w2.heap.size w3.heap.size va R) := HR_w6.out.later hb7
  have HF_w7 : Hid (FreeP w7 w3.heap.size w4.heap.size u4 P) := HF_w6.out.later hb7
  have HG_w7 : Hid (IntsAt true w7 w4.heap.size w5.heap.size vg R) := HG_w6.out.later hb7
  clear HB_w6 HR_w6 HF_w6 HG_w6
  clear hb7
  go_wp2_with fail
  refine (eqProcS_same w7 _ _ u4 u7 P (HF_w7.out.prog (by have := HN.out.1; unfold maxLen; omega)) hP7).mono ?_
  rintro e w8 ⟨rfl, hb8⟩
  have HB_w8 : Hid (Below w.heap.size w w8) := HB_w7.out.trans (hb8.mono HB_w7.out.size)
  have HR_w8 : Hid (IntsAt true w8 w2.heap.size w3.heap.size va R) := HR_w7.out.later hb8
  have HF_w8 : Hid (FreeP w8 w3.heap.size w4.heap.size u4 P) := HF_w7.out.later hb8
  have HG_w8 : Hid (IntsAt true w8 w4.heap.size w5.heap.size vg R) := HG_w7.out.later hb8
  clear HB_w7 HR_w7 HF_w7 HG_w7
  clear hb8 hP7
  go_wp2_with fail
  refine (markProcS_any w8 _ _ u4 P HF_w8.out HN.out.1 HN.out.2 1 (by omega) (by omega)).mono ?_
  rintro e w9 ⟨K, rfl, hK0, hK1, hW9⟩
  have HB_w9 : Hid (Below w.heap.size w w9) := HB_w8.out.trans (hW9.below.mono (by omega))
  have HR_w9 : Hid (IntsAt true w9 w2.heap.size w3.heap.size va R) := HR_w8.out.within hW9 (by omega)
  have HG_w9 : Hid (IntsAt true w9 w4.heap.size w5.heap.size vg R) := HG_w8.out.within hW9 (by omega)
  clear HB_w8 HR_w8 HG_w8
  clear HF_w8 hW9
  have hKn : ¬ K < 0 := by omega
  clear hK0 hK1
  go_wp2_with fail
  refine (eqIntS_same w9 _ _ _ _ _ _ _ _ R HG_w9.out HR_w9.out).mono ?_
  rintro e wa ⟨rfl, hba⟩
  have HB_wa : Hid (Below w.heap.size w wa) := HB_w9.out.trans (hba.mono HB_w9.out.size)
  have HR_wa : Hid (IntsAt true wa w2.heap.size w3.heap.size va R) := HR_w9.out.later hba
  have HG_wa : Hid (IntsAt true wa w4.heap.size w5.heap.size vg R) := HG_w9.out.later hba
  clear HB_w9 HR_w9 HG_w9
  clear hba
  go_wp2_with fail
  refine (markIntsAt wa _ _ vg R 1 HG_wa.out (by omega) (by omega) (by have := HL.out; omega)).mono ?_
  rintro e wb ⟨rfl, hMb, hWb⟩
  have HM_wb : Hid (IntsAt true wb w4.heap.size w5.heap.size vg (fromL 1 R.length)) := hMb
  have HB_wb : Hid (Below w.heap.size w wb) := HB_wa.out.trans (hWb.below.mono (by omega))
  have HR_wb : Hid (IntsAt true wb w2.heap.size w3.heap.size va R) := HR_wa.out.within hWb (by omega)
  clear HB_wa HR_wa
  clear hMb hWb HG_wa
  have HH : Hid (∀ z : World, IntsAt true z w4.heap.size w5.heap.size vg (fromL 1 R.length) → Calls Try.prog 13 #[vg, .int .i64 1] z fun e y => e = .returned (.int .i64 (1 + R.length)) ∧ y = z) := fun z hz => heldIntsAt z _ _ vg R.length 1 hz (by omega) (by omega) (by have := HL.out; omega)
  have hq1 : (1 : Int) ≤ 1 + (R.length : Int) := by omega
  generalize (1 : Int) + (R.length : Int) = q at HH hq1 ⊢
  have hq : ¬ q < 0 := by omega
  go_wp2_with fail
  refine (HH.out wb HM_wb.out).mono ?_
  rintro e wc ⟨rfl, hwc⟩
  have hwc2 := hwc.symm
  subst hwc2
  clear hwc
  go_wp2_with fail
  refine (toProcS_any _ 0 _ P (HP.out.later HB_wb.out) HN.out.1 HN.out.2).mono ?_
  rintro e wd ⟨ud, rfl, hPd, hbd⟩
  have HB_wd : Hid (Below w.heap.size w wd) := HB_wb.out.trans (hbd.mono HB_wb.out.size)
  have HR_wd : Hid (IntsAt true wd w2.heap.size w3.heap.size va R) := HR_wb.out.later hbd
  have HM_wd : Hid (IntsAt true wd w4.heap.size w5.heap.size vg (fromL 1 R.length)) := HM_wb.out.later hbd
  clear HB_wb HR_wb HM_wb
  clear hbd
  go_wp2_with fail
  refine (HIM.out wd ud _ hPd).mono ?_
  rintro e we ⟨vh, rfl, hRH, hbe⟩
  have HB_we : Hid (Below w.heap.size w we) := HB_wd.out.trans (hbe.mono HB_wd.out.size)
  have HR_we : Hid (IntsAt true we w2.heap.size w3.heap.size va R) := HR_wd.out.later hbe
  have HM_we : Hid (IntsAt true we w4.heap.size w5.heap.size vg (fromL 1 R.length)) := HM_wd.out.later hbe
  clear HB_wd HR_wd HM_wd
  clear hbe hPd
  have HH2 : Hid (IntsAt true we wd.heap.size we.heap.size vh R) := hRH
  clear hRH
  go_wp2_with fail
  refine (eqIntS_same we _ _ _ _ _ _ _ _ R HH2.out HR_we.out).mono ?_
  rintro e wf ⟨rfl, hbf⟩
  have HB_wf : Hid (Below w.heap.size w wf) := HB_we.out.trans (hbf.mono HB_we.out.size)
  have HM_wf : Hid (IntsAt true wf w4.heap.size w5.heap.size vg (fromL 1 R.length)) := HM_we.out.later hbf
  clear HB_we HM_we
  clear hbf
  go_wp2_with fail
  refine (HH.out wf HM_wf.out).mono ?_
  rintro e wg ⟨rfl, hwg⟩
  have hwg2 := hwg.symm
  subst hwg2
  clear hwg
  go_wp2_with fail
  go_ret
  exact ⟨rfl, HB_wf.out⟩

end Go.Proofs.Ytlkebkajdlgebaa
