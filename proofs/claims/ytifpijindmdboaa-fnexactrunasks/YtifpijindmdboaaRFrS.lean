/-
  Whether a frame is ok: the contract of the model's l3FrameOk.
-/
import Derived.Test.YtifpijindmdboaaRFrO
namespace Go.Proofs.Ytifpijindmdboaa
open Go.RowKit
set_option linter.unusedVariables false
set_option linter.unusedSimpArgs false

set_option maxRecDepth 100000 in
set_option maxHeartbeats 8000000 in
theorem l3FrameOk_any (x : World) (B : Nat) (v : Value) (P : List (List I4)) (h : ProgAt x B v P) (hok : progOkF P = true) (f : Fr) (a b : Value) (ha : IntsW x a f.r) (hb : IntsW x b f.c) :
    Calls Try.prog 74 #[v, aggFr f a b] x fun e y => e = .returned (.bool (frameF P f)) ∧ Below x.heap.size x y := by
  obtain ⟨n0, n1, n2, n5, R, C⟩ := f
  unfold aggFr
  simp only at ha hb ⊢
  obtain ⟨p, cap, rfl, _⟩ := h.shape
  obtain ⟨pa, ka, rfl⟩ := ha.shape
  obtain ⟨pb, kb, rfl⟩ := hb.shape
  have H : Hid (ProgAt x B (.slice p P.length cap) P) := h
  have HA : Hid (IntsW x (.slice pa R.length ka) R) := ha
  have HB : Hid (IntsW x (.slice pb C.length kb) C) := hb
  have hl := progOkF_len hok
  have HOK : Hid (progOkF P = true) := hok
  have hn4 : (P.length : Int) ≤ 4 := by omega
  have hn1 : 1 ≤ (P.length : Int) := by omega
  have HFr : Hid (frameF P ⟨n0, n1, n2, n5, R, C⟩ = (inI n0 0 (P.length - 1) && wdF n1 && inI n2 0 (P.getD n0.toNat []).length && wordsF R && wordsF C && inI n5 0 2)) := rfl
  generalize hFF : frameF P ⟨n0, n1, n2, n5, R, C⟩ = FF at HFr
  clear hFF h ha hb hok hl
  generalize hrn : R.length = rn at *
  generalize hcn : C.length = cn at *
  generalize hpn : P.length = pn at *
  have HPN : Hid (P.length = pn) := hpn
  clear hrn hcn hpn
  have HAl : Hid (Below x.heap.size x (x.alloc (.cells #[.int .i64 n0, .int .i64 n1, .int .i64 n2, .slice pa rn ka, .slice pb cn kb, .int .i64 n5] 98))) := (Below.refl _ _).alloc (Nat.le_refl _) _
  cases g1 : inI n0 0 (pn - 1)
  · clear H HA HB
    have C1 : Hid (∀ w : World, Calls Try.prog 73 #[.int .i64 n0, .int .i64 0, .int .i64 (pn - 1)] w fun e w' => e = .returned (.bool false) ∧ w' = w) := fun w => by have := l6In_e n0 0 (pn - 1) w; rw [g1] at this; exact this
    go_enter Try.func74, Try.ntmps74
    go_wp2_with fail
    go_quiet (first | (go_at_call 73; with_reducible exact Calls.quiet_of_same (C1.out _)))
    go_wp2_with fail
    go_ret
    exact ⟨retBool (by rw [HFr.out, g1]; rfl), HAl.out.trans ((belowN _ _).mono HAl.out.size)⟩
  · obtain ⟨k, rfl, hk⟩ : ∃ k : Nat, n0 = k ∧ k < pn := by
      simp only [inI, Bool.and_eq_true, decide_eq_true_eq] at g1
      exact ⟨n0.toNat, by omega, by omega⟩
    have hk' : k < P.length := by rw [HPN.out]; exact hk
    have hc8 := (progOkF_code HOK.out hk').1
    have HP2 : Hid (ProgAt x B (.slice p P.length cap) P) := by show ProgAt _ _ _ _; rw [HPN.out]; exact H.out
    obtain ⟨g, o, uu, rfl, hg, hu, hc⟩ := HP2.out.code hk'
    obtain ⟨pk, ck, rfl, _⟩ := hc.shape
    have HFr2 : Hid (FF = (wdF n1 && inI n2 0 (P.getD k []).length && wordsF R && wordsF C && inI n5 0 2)) := by
      show FF = _
      rw [HFr.out, g1]; simp
    have C1 : Hid (∀ w : World, Calls Try.prog 73 #[.int .i64 (k : Int), .int .i64 0, .int .i64 (pn - 1)] w fun e w' => e = .returned (.bool true) ∧ w' = w) := fun w => by have := l6In_e k 0 (pn - 1) w; rw [g1] at this; exact this
    clear HFr hc HP2 H g1 hk'
    generalize hcl : (P.getD k []).length = cl at *
    clear hcl
    have hki : (k : Int) < (pn : Int) := by omega
    have hc8i : (cl : Int) ≤ 8 := by omega
    have hg1 : g < x.heap.size + 1 := by omega
    cases g2 : wdF n1
    · clear HA HB
      have C2 : Hid (∀ w : World, Calls Try.prog 104 #[.int .i64 n1] w fun e w' => e = .returned (.bool false) ∧ w' = w) := fun w => by have := l1Word_e n1 w; rw [show inI n1 (-16) 15 = false from g2] at this; exact this
      go_enter Try.func74, Try.ntmps74
      go_wp2_with fail
      go_quiet (first | (go_at_call 73; with_reducible exact Calls.quiet_of_same (C1.out _)) | (go_at_call 104; with_reducible exact Calls.quiet_of_same (C2.out _)))
      go_wp2_with fail
      go_ret
      exact ⟨retBool (by rw [HFr2.out, g2]; rfl), HAl.out.trans ((belowN _ _).mono HAl.out.size)⟩
    · cases g3 : inI n2 0 cl
      · clear HA HB
        have C2 : Hid (∀ w : World, Calls Try.prog 104 #[.int .i64 n1] w fun e w' => e = .returned (.bool true) ∧ w' = w) := fun w => by have := l1Word_e n1 w; rw [show inI n1 (-16) 15 = true from g2] at this; exact this
        have C3 : Hid (∀ w : World, Calls Try.prog 73 #[.int .i64 n2, .int .i64 0, .int .i64 cl] w fun e w' => e = .returned (.bool false) ∧ w' = w) := fun w => by have := l6In_e n2 0 cl w; rw [g3] at this; exact this
        go_enter Try.func74, Try.ntmps74
        go_wp2_with fail
        go_quiet (first | (go_at_call 73; with_reducible exact Calls.quiet_of_same (C1.out _)) | (go_at_call 104; with_reducible exact Calls.quiet_of_same (C2.out _)) | (go_at_call 73; with_reducible exact Calls.quiet_of_same (C3.out _)))
        go_wp2_with fail
        go_ret
        exact ⟨retBool (by rw [HFr2.out, g2, g3]; rfl), HAl.out.trans ((belowN _ _).mono HAl.out.size)⟩
      · cases g4 : wordsF R
        · clear HB
          have C2 : Hid (∀ w : World, Calls Try.prog 104 #[.int .i64 n1] w fun e w' => e = .returned (.bool true) ∧ w' = w) := fun w => by have := l1Word_e n1 w; rw [show inI n1 (-16) 15 = true from g2] at this; exact this
          have C3 : Hid (∀ w : World, Calls Try.prog 73 #[.int .i64 n2, .int .i64 0, .int .i64 cl] w fun e w' => e = .returned (.bool true) ∧ w' = w) := fun w => by have := l6In_e n2 0 cl w; rw [g3] at this; exact this
          have C4 : Hid (∀ w : World, IntsW w (.slice pa rn ka) R → Calls Try.prog 105 #[.slice pa rn ka, .int .i64 3] w fun e w' => e = .returned (.bool false) ∧ w' = w) := fun w hw => by have := l3Words_any w _ R hw; rw [g4] at this; exact this
          go_enter Try.func74, Try.ntmps74
          go_wp2_with fail
          go_quiet (first | (go_at_call 73; with_reducible exact Calls.quiet_of_same (C1.out _)) | (go_at_call 104; with_reducible exact Calls.quiet_of_same (C2.out _)) | (go_at_call 73; with_reducible exact Calls.quiet_of_same (C3.out _)) | (go_at_call 105; with_reducible exact Calls.quiet_of_same (C4.out _ ((HA.out.later HAl.out).later (belowN _ _)))))
          go_wp2_with fail
          go_ret
          exact ⟨retBool (by rw [HFr2.out, g4]; simp), HAl.out.trans ((belowN _ _).mono HAl.out.size)⟩
        · cases g5 : wordsF C
          · have C2 : Hid (∀ w : World, Calls Try.prog 104 #[.int .i64 n1] w fun e w' => e = .returned (.bool true) ∧ w' = w) := fun w => by have := l1Word_e n1 w; rw [show inI n1 (-16) 15 = true from g2] at this; exact this
            have C3 : Hid (∀ w : World, Calls Try.prog 73 #[.int .i64 n2, .int .i64 0, .int .i64 cl] w fun e w' => e = .returned (.bool true) ∧ w' = w) := fun w => by have := l6In_e n2 0 cl w; rw [g3] at this; exact this
            have C4 : Hid (∀ w : World, IntsW w (.slice pa rn ka) R → Calls Try.prog 105 #[.slice pa rn ka, .int .i64 3] w fun e w' => e = .returned (.bool true) ∧ w' = w) := fun w hw => by have := l3Words_any w _ R hw; rw [g4] at this; exact this
            have C5 : Hid (∀ w : World, IntsW w (.slice pb cn kb) C → Calls Try.prog 105 #[.slice pb cn kb, .int .i64 3] w fun e w' => e = .returned (.bool false) ∧ w' = w) := fun w hw => by have := l3Words_any w _ C hw; rw [g5] at this; exact this
            go_enter Try.func74, Try.ntmps74
            go_wp2_with fail
            go_quiet (first | (go_at_call 73; with_reducible exact Calls.quiet_of_same (C1.out _)) | (go_at_call 104; with_reducible exact Calls.quiet_of_same (C2.out _)) | (go_at_call 73; with_reducible exact Calls.quiet_of_same (C3.out _)) | (go_at_call 105; with_reducible exact Calls.quiet_of_same (C4.out _ ((HA.out.later HAl.out).later (belowN _ _)))) | (go_at_call 105; with_reducible exact Calls.quiet_of_same (C5.out _ ((HB.out.later HAl.out).later (belowN _ _)))))
            go_wp2_with fail
            go_ret
            exact ⟨retBool (by rw [HFr2.out, g5]; simp), HAl.out.trans ((belowN _ _).mono HAl.out.size)⟩
          · have C2 : Hid (∀ w : World, Calls Try.prog 104 #[.int .i64 n1] w fun e w' => e = .returned (.bool true) ∧ w' = w) := fun w => by have := l1Word_e n1 w; rw [show inI n1 (-16) 15 = true from g2] at this; exact this
            have C3 : Hid (∀ w : World, Calls Try.prog 73 #[.int .i64 n2, .int .i64 0, .int .i64 cl] w fun e w' => e = .returned (.bool true) ∧ w' = w) := fun w => by have := l6In_e n2 0 cl w; rw [g3] at this; exact this
            have C4 : Hid (∀ w : World, IntsW w (.slice pa rn ka) R → Calls Try.prog 105 #[.slice pa rn ka, .int .i64 3] w fun e w' => e = .returned (.bool true) ∧ w' = w) := fun w hw => by have := l3Words_any w _ R hw; rw [g4] at this; exact this
            have C5 : Hid (∀ w : World, IntsW w (.slice pb cn kb) C → Calls Try.prog 105 #[.slice pb cn kb, .int .i64 3] w fun e w' => e = .returned (.bool true) ∧ w' = w) := fun w hw => by have := l3Words_any w _ C hw; rw [g5] at this; exact this
            go_enter Try.func74, Try.ntmps74
            go_wp2_with fail
            go_quiet (first | (go_at_call 73; with_reducible exact Calls.quiet_of_same (C1.out _)) | (go_at_call 104; with_reducible exact Calls.quiet_of_same (C2.out _)) | (go_at_call 73; with_reducible exact Calls.quiet_of_same (C3.out _)) | (go_at_call 105; with_reducible exact Calls.quiet_of_same (C4.out _ ((HA.out.later HAl.out).later (belowN _ _)))) | (go_at_call 105; with_reducible exact Calls.quiet_of_same (C5.out _ ((HB.out.later HAl.out).later (belowN _ _)))) | (go_at_call 73; with_reducible exact Calls.quiet_of_same (l6In_e n5 0 2 _)))
            go_wp2_with fail
            go_ret
            exact ⟨retBool (by rw [HFr2.out, g2, g3, g4, g5]; simp), HAl.out.trans ((belowN _ _).mono HAl.out.size)⟩

end Go.Proofs.Ytifpijindmdboaa
