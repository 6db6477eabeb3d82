/-
  The walk of the exact law of ProgOk.
-/
import Derived.Test.YtadlobjpmomfgaaPOkI
import Derived.Test.YtadlobjpmomfgaaPOkT
import Derived.Test.YtadlobjpmomfgaaPEq2
namespace Go.Proofs.Ytadlobjpmomfgaa
open Go.RowKit
set_option linter.unusedVariables false
set_option linter.unusedSimpArgs false

set_option maxHeartbeats 4000000 in
theorem exactProgOk_walk (s : Option Addr) (n cap : Nat) (P : List (List I4)) (w : World) (h : ProgAt w 0 (.slice s n cap) P) :
    Calls Try.prog 3 #[.slice s n cap] w fun e w' => e = .returned (.bool true) ∧ Below w.heap.size w w' := by
  have H : Hid (ProgAt w 0 (.slice s n cap) P) := h
  clear h
  go_enter Try.func3, Try.ntmps3
  go_wp2_with fail
  refine (szProcS_any _ 0 _ P H.out).mono ?_
  rintro e w1 ⟨r, rfl, hr, hb1⟩
  have HR : Hid (0 ≤ r → P.length ≤ 1048576 ∧ ∀ j, j < P.length → (P.getD j []).length ≤ 1048576) := hr
  clear hr
  by_cases hneg : r < 0
  · go_wp2_with fail
    go_ret
    exact ⟨rfl, hb1⟩
  have HN : Hid (P.length ≤ 1048576 ∧ ∀ j, j < P.length → (P.getD j []).length ≤ 1048576) := HR.out (by omega)
  clear HR
  go_wp2_with fail
  refine (toProcS_any _ 0 _ P (H.out.later hb1) HN.out.1 HN.out.2).mono ?_
  rintro e w2 ⟨u2, rfl, hP2, hb2⟩
  have hB2 := hb1.trans (hb2.mono hb1.size)
  go_wp2_with fail
  refine (progOk_spec _ _ _ P hP2).mono ?_
  rintro e w3 ⟨rfl, hb3⟩
  have hB3 := hB2.trans (hb3.mono hB2.size)
  clear hP2 hb2 hb3 hB2 hb1
  go_wp2_with fail
  refine (toProcS_any _ 0 _ P (H.out.later hB3) HN.out.1 HN.out.2).mono ?_
  rintro e w4 ⟨u4, rfl, hP4, hb4⟩
  have hB4 := hB3.trans (hb4.mono hB3.size)
  clear hb4 hB3
  go_wp2_with fail
  refine (progOk_impl _ _ _ P hP4).mono ?_
  rintro e w5 ⟨rfl, hb5⟩
  have HP5 : Hid (ProgAt w5 w3.heap.size u4 P) := hP4.later hb5
  have hB5 := hB4.trans (hb5.mono hB4.size)
  clear hP4 hb5 hB4
  go_wp2_with fail
  refine (toProcS_any _ 0 _ P (H.out.later hB5) HN.out.1 HN.out.2).mono ?_
  rintro e w6 ⟨u6, rfl, hP6, hb6⟩
  have hB6 := hB5.trans (hb6.mono hB5.size)
  go_wp2_with fail
  refine (eqProcS_same _ _ _ _ _ P (HP5.out.later hb6) hP6).mono ?_
  rintro e w7 ⟨rfl, hb7⟩
  have hB7 := hB6.trans (hb7.mono hB6.size)
  clear hP6 hb6 hb7 hB6 hB5
  go_wp2_with fail
  go_ret
  exact ⟨rfl, hB7⟩

end Go.Proofs.Ytadlobjpmomfgaa
