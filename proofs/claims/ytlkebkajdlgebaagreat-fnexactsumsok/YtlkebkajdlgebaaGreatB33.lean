import Derived.Test.YtlkebkajdlgebaaGreatB32
import Derived.Test.YtlkebkajdlgebaaGreatB26
import Derived.Test.YtlkebkajdlgebaaGreatB20
import Derived.Test.YtlkebkajdlgebaaGreatB6
/-
  The walk of the exact law of SumsOk.
-/
namespace Go.Proofs.YtlkebkajdlgebaaGreat
open Go.RowKit
set_option linter.unusedVariables false
set_option linter.unusedSimpArgs false

set_option maxRecDepth 100000 in
set_option maxHeartbeats 8000000 in
theorem exactSumsOk_walk (s0 : Option Addr) (n0 cap0 : Nat) (P : List (List I4)) (s1 : Option Addr) (n1 cap1 : Nat) (M : List Sm) (w : World) (hP : ProgAt w 0 (.slice s0 n0 cap0) P) (hM : SmsAt w (.slice s1 n1 cap1) M) :
    Calls Tryz.prog 4 #[.slice s0 n0 cap0, .slice s1 n1 cap1] w fun e w' => e = .returned (.bool true) ∧ Below w.heap.size w w' := by
  have HP : Hid (ProgAt w 0 (.slice s0 n0 cap0) P) := hP
  have HM : Hid (SmsAt w (.slice s1 n1 cap1) M) := hM
  have HSP : Hid (∀ (z : World) (v : Value) (D : Nat), ProgAt z D v P → ∀ u : Value, SmsAt z u M → Calls Tryz.prog 16 #[v, u] z fun e y => e = .returned (.bool (progOkF P && sumsF P (callsQ P) M)) ∧ Below z.heap.size z y) := fun z v D hp u hu => sumsOk_spec z D v P hp M u hu
  have HIM : Hid (∀ (z : World) (v : Value) (D : Nat), ProgAt z D v P → ∀ u : Value, SmsAt z u M → Calls Tryz.prog 18 #[v, u] z fun e y => e = .returned (.bool (progOkF P && sumsF P (callsQ P) M)) ∧ Below z.heap.size z y) := fun z v D hp u hu => sumsOk_impl z D v P hp M u hu (callsQ P) (fun hok k hk => callsOf_is D P hok k hk)
  generalize (progOkF P && sumsF P (callsQ P) M) = G at HSP HIM
  have hgg2 : (G != G) = false := by cases G <;> rfl
  clear hP hM
  go_enter Tryz.func4, Tryz.ntmps4
  go_wp2_with fail
  refine (szProcS_any _ 0 _ P HP.out).mono ?_
  rintro e w1 ⟨r, rfl, hr, hr1, hb1⟩
  have HR0 : Hid (0 ≤ r → P.length ≤ 1048576 ∧ ∀ j, j < P.length → (P.getD j []).length ≤ 1048576) := hr
  have HB1 : Hid (Below w.heap.size w w1) := hb1
  clear hr hb1
  by_cases hneg : r < 0
  · go_wp2_with fail
    go_ret
    exact ⟨rfl, HB1.out⟩
  have HN : Hid (P.length ≤ 1048576 ∧ ∀ j, j < P.length → (P.getD j []).length ≤ 1048576) := HR0.out (by omega)
  clear HR0
  go_wp2_with fail
  refine (szSumS_any _ _ M (HM.out.later HB1.out) r (by omega) hr1).mono ?_
  rintro e w2 ⟨r2, rfl, hr2, _, hb2⟩
  have HR2 : Hid (0 ≤ r2 → smsSz M) := hr2
  have HB2 : Hid (Below w.heap.size w w2) := HB1.out.trans (hb2.mono HB1.out.size)
  clear hr2 hb2 HB1 hr1 hneg
  by_cases hneg2 : r2 < 0
  · go_wp2_with fail
    go_ret
    exact ⟨rfl, HB2.out⟩
  have HSZ : Hid (smsSz M) := HR2.out (by omega)
  clear HR2
  go_wp2_with fail
  refine (toProcS_any _ 0 _ P (HP.out.later HB2.out) HN.out.1 HN.out.2).mono ?_
  rintro e w3 ⟨u3, rfl, hP3, hb3⟩
  have HB3 : Hid (Below w.heap.size w w3) := HB2.out.trans (hb3.mono HB2.out.size)
  have HP3 : Hid (ProgAt w3 w2.heap.size u3 P) := hP3
  clear hb3 hP3 HB2
  go_wp2_with fail
  refine (toSumS_any _ _ M (HM.out.later HB3.out) HSZ.out).mono ?_
  rintro e w4 ⟨u4, rfl, hM4, hb4⟩
  have HB4 : Hid (Below w.heap.size w w4) := HB3.out.trans (hb4.mono HB3.out.size)
  have HP4 : Hid (ProgAt w4 w2.heap.size u3 P) := HP3.out.later hb4
  have HM4 : Hid (SmsAt w4 u4 M) := hM4
  clear hb4 hM4 HB3 HP3
  go_wp2_with fail
  refine (HSP.out w4 u3 _ HP4.out u4 HM4.out).mono ?_
  rintro e w5 ⟨rfl, hb5⟩
  have HB5 : Hid (Below w.heap.size w w5) := HB4.out.trans (hb5.mono HB4.out.size)
  clear hb5 HB4 HP4 HM4 HSP
  go_wp2_with fail
  refine (toProcS_any _ 0 _ P (HP.out.later HB5.out) HN.out.1 HN.out.2).mono ?_
  rintro e w6 ⟨u6, rfl, hP6, hb6⟩
  have HB6 : Hid (Below w.heap.size w w6) := HB5.out.trans (hb6.mono HB5.out.size)
  have HP6 : Hid (ProgAt w6 w5.heap.size u6 P) := hP6
  clear hb6 hP6 HB5
  go_wp2_with fail
  refine (toSumS_any _ _ M (HM.out.later HB6.out) HSZ.out).mono ?_
  rintro e w7 ⟨u7, rfl, hM7, hb7⟩
  have HB7 : Hid (Below w.heap.size w w7) := HB6.out.trans (hb7.mono HB6.out.size)
  have HP7 : Hid (ProgAt w7 w5.heap.size u6 P) := HP6.out.later hb7
  have HM7 : Hid (SmsAt w7 u7 M) := hM7
  clear hb7 hM7 HB6 HP6
  go_wp2_with fail
  refine (HIM.out w7 u6 _ HP7.out u7 HM7.out).mono ?_
  rintro e w8 ⟨rfl, hb8⟩
  have HB8 : Hid (Below w.heap.size w w8) := HB7.out.trans (hb8.mono HB7.out.size)
  have HP8 : Hid (ProgAt w8 w5.heap.size u6 P) := HP7.out.later hb8
  have HM8 : Hid (SmsAt w8 u7 M) := HM7.out.later hb8
  clear hb8 HB7 HP7 HM7 HIM
  go_wp2_with fail
  refine (toProcS_any _ 0 _ P (HP.out.later HB8.out) HN.out.1 HN.out.2).mono ?_
  rintro e w9 ⟨u9, rfl, hP9, hb9⟩
  have HB9 : Hid (Below w.heap.size w w9) := HB8.out.trans (hb9.mono HB8.out.size)
  have HP9 : Hid (ProgAt w9 w5.heap.size u6 P) := HP8.out.later hb9
  have HM9 : Hid (SmsAt w9 u7 M) := HM8.out.later hb9
  have HQ9 : Hid (ProgAt w9 w8.heap.size u9 P) := hP9
  clear hb9 hP9 HB8 HP8 HM8
  go_wp2_with fail
  refine (eqProcS_same w9 _ _ u6 u9 P HP9.out HQ9.out).mono ?_
  rintro e wa ⟨rfl, hba⟩
  have HBa : Hid (Below w.heap.size w wa) := HB9.out.trans (hba.mono HB9.out.size)
  have HMa : Hid (SmsAt wa u7 M) := HM9.out.later hba
  clear hba HB9 HM9 HP9 HQ9
  go_wp2_with fail
  refine (toSumS_any _ _ M (HM.out.later HBa.out) HSZ.out).mono ?_
  rintro e wb ⟨ub, rfl, hMb, hbb⟩
  have HBb : Hid (Below w.heap.size w wb) := HBa.out.trans (hbb.mono HBa.out.size)
  have HMb : Hid (SmsAt wb u7 M) := HMa.out.later hbb
  have HNb : Hid (SmsAt wb ub M) := hMb
  clear hbb hMb HBa HMa
  go_wp2_with fail
  refine (eqSumS_any wb u7 ub M HMb.out HNb.out).mono ?_
  rintro e wc ⟨rfl, hbc⟩
  have hfin := HBb.out.trans (hbc.mono HBb.out.size)
  clear hbc HBb HMb HNb
  go_wp2_with fail
  go_ret
  exact ⟨rfl, hfin⟩

end Go.Proofs.YtlkebkajdlgebaaGreat
