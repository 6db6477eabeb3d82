import Derived.Test.YtbjegekfghihkaaB24
import Derived.Test.YtbjegekfghihkaaB15
/-
  Whether a frame is ok: the contract of the model's l3FrameOk.
-/
namespace Go.Proofs.Ytbjegekfghihkaa
open Go.RowKit
set_option linter.unusedVariables false
set_option linter.unusedSimpArgs false

set_option maxRecDepth 100000 in
set_option maxHeartbeats 8000000 in
theorem l3FrameOk_any (x : World) (B : Nat) (v : Value) (P : List (List I4)) (h : ProgAt x B v P) (hok : progOkF P = true) (f : Fr) (a b : Value) (ha : IntsW x a f.r) (hb : IntsW x b f.c) :
    Calls Try.prog 51 #[v, aggFr f a b] x fun e y => e = .returned (.bool (frameF P f)) ∧ Below x.heap.size x y := by
  obtain ⟨n0, n1, n2, n5, R, C⟩ := f
  unfold aggFr
  simp only at ha hb ⊢
  obtain ⟨p, cap, rfl, _⟩ := h.shape
  obtain ⟨pa, ka, rfl⟩ := ha.shape
  obtain ⟨pb, kb, rfl⟩ := hb.shape
  have H : Hid (ProgAt x B (.slice p P.length cap) P) := h
  have HA : Hid (IntsW x (.slice pa R.length ka) R) := ha
  have HB : Hid (IntsW x (.slice pb C.length kb) C) := hb
  have hl := progOkF_len hok
  have HOK : Hid (progOkF P = true) := hok
  have hn4 : (P.length : Int) ≤ 4 := by omega
  have hn1 : 1 ≤ (P.length : Int) := by omega
  have HFr : Hid (frameF P ⟨n0, n1, n2, n5, R, C⟩ = (inI n0 0 (P.length - 1) && wdF n1 && inI n2 0 (P.getD n0.toNat []).length && wordsF R && wordsF C && inI n5 0 2)) := rfl
  generalize hFF : frameF P ⟨n0, n1, n2, n5, R, C⟩ = FF at HFr
  clear hFF h ha hb hok hl
  generalize hrn : R.length = rn at *
  generalize hcn : C.length = cn at *
  generalize hpn : P.length = pn at *
  have HPN : Hid (P.length = pn) := hpn
  clear hrn hcn hpn
  have HAl : Hid (Below x.heap.size x (x.alloc (.cells #[.int .i64 n0, .int .i64 n1, .int .i64 n2, .slice pa rn ka, .slice pb cn kb, .int .i64 n5] 99))) := (Below.refl _ _).alloc (Nat.le_refl _) _
  cases g1 : inI n0 0 (pn - 1)
  · clear H HA HB
    have C1 : Hid (∀ w : World, Calls Try.prog 50 #[.int .i64 n0, .int .i64 0, .int .i64 (pn - 1)] w fun e w' => e = .returned (.bool false) ∧ w' = w) := fun w => by have := l6In_e n0 0 (pn - 1) w; rw [g1] at this; exact this
    go_enter Try.func51, Try.ntmps51
    go_wp2_with fail
    go_quiet (first | (go_at_call 50; with_reducible exact Calls.quiet_of_same (C1.out _)))
    go_wp2_with fail
    go_ret
    exact ⟨retBool (by rw [HFr.out, g1]; rfl), HAl.out.trans ((belowN _ _).mono HAl.out.size)⟩
  · obtain ⟨k, rfl, hk⟩ : ∃ k : Nat, n0 = k ∧ k < pn := by
      simp only [inI, Bool.and_eq_true, decide_eq_true_eq] at g1
      exact ⟨n0.toNat, by omega, by omega⟩
    have hk' : k < P.length := by rw [HPN.out]; exact hk
    have hc8 := (progOkF_code HOK.out hk').1
    have HP2 : Hid (ProgAt x B (.slice p P.length cap) P) := by show ProgAt _ _ _ _; rw [HPN.out]; exact H.out
    obtain ⟨g, o, uu, rfl, hg, hu, hc⟩ := HP2.out.code hk'
    obtain ⟨pk, ck, rfl, _⟩ := hc.shape
    have HFr2 : Hid (FF = (wdF n1 && inI n2 0 (P.getD k []).length && wordsF R && wordsF C && inI n5 0 2)) := by
      show FF = _
      rw [HFr.out, g1]; simp
    have C1 : Hid (∀ w : World, Calls Try.prog 50 #[.int .i64 (k : Int), .int .i64 0, .int .i64 (pn - 1)] w fun e w' => e = .returned (.bool true) ∧ w' = w) := fun w => by have := l6In_e k 0 (pn - 1) w; rw [g1] at this; exact this
    clear HFr hc HP2 H g1 hk'
    generalize hcl : (P.getD k []).length = cl at *
    clear hcl
    have hki : (k : Int) < (pn : Int) := by omega
    have hc8i : (cl : Int) ≤ 8 := by omega
    have hg1 : g < x.heap.size + 1 := by omega
    cases g2 : wdF n1
    · clear HA HB
      have C2 : Hid (∀ w : World, Calls Try.prog 72 #[.int .i64 n1] w fun e w' => e = .returned (.bool false) ∧ w' = w) := fun w => by have := l1Word_e n1 w; rw [show inI n1 (-16) 15 = false from g2] at this; exact this
      go_enter Try.func51, Try.ntmps51
      go_wp2_with fail
      go_quiet (first | (go_at_call 50; with_reducible exact Calls.quiet_of_same (C1.out _)) | (go_at_call 72; with_reducible exact Calls.quiet_of_same (C2.out _)))
      go_wp2_with fail
      go_ret
      exact ⟨retBool (by rw [HFr2.out, g2]; rfl), HAl.out.trans ((belowN _ _).mono HAl.out.size)⟩
    · cases g3 : inI n2 0 cl
      · clear HA HB
        have C2 : Hid (∀ w : World, Calls Try.prog 72 #[.int .i64 n1] w fun e w' => e = .returned (.bool true) ∧ w' = w) := fun w => by have := l1Word_e n1 w; rw [show inI n1 (-16) 15 = true from g2] at this; exact this
        have C3 : Hid (∀ w : World, Calls Try.prog 50 #[.int .i64 n2, .int .i64 0, .int .i64 cl] w fun e w' => e = .returned (.bool false) ∧ w' = w) := fun w => by have := l6In_e n2 0 cl w; rw [g3] at this; exact this
        go_enter Try.func51, Try.ntmps51
        go_wp2_with fail
        go_quiet (first | (go_at_call 50; with_reducible exact Calls.quiet_of_same (C1.out _)) | (go_at_call 72; with_reducible exact Calls.quiet_of_same (C2.out _)) | (go_at_call 50; with_reducible exact Calls.quiet_of_same (C3.out _)))
        go_wp2_with fail
        go_ret
        exact ⟨retBool (by rw [HFr2.out, g2, g3]; rfl), HAl.out.trans ((belowN _ _).mono HAl.out.size)⟩
      · cases g4 : wordsF R
        · clear HB
          have C2 : Hid (∀ w : World, Calls Try.prog 72 #[.int .i64 n1] w fun e w' => e = .returned (.bool true) ∧ w' = w) := fun w => by have := l1Word_e n1 w; rw [show inI n1 (-16) 15 = true from g2] at this; exact this
          have C3 : Hid (∀ w : World, Calls Try.prog 50 #[.int .i64 n2, .int .i64 0, .int .i64 cl] w fun e w' => e = .returned (.bool true) ∧ w' = w) := fun w => by have := l6In_e n2 0 cl w; rw [g3] at this; exact this
          have C4 : Hid (∀ w : World, IntsW w (.slice pa rn ka) R → Calls Try.prog 73 #[.slice pa rn ka, .int .i64 3] w fun e w' => e = .returned (.bool false) ∧ w' = w) := fun w hw => by have := l3Words_any w _ R hw; rw [g4] at this; exact this
          go_enter Try.func51, Try.ntmps51
          go_wp2_with fail
          go_quiet (first | (go_at_call 50; with_reducible exact Calls.quiet_of_same (C1.out _)) | (go_at_call 72; with_reducible exact Calls.quiet_of_same (C2.out _)) | (go_at_call 50; with_reducible exact Calls.quiet_of_same (C3.out _)) | (go_at_call 73; with_reducible exact Calls.quiet_of_same (C4.out _ ((HA.out.later HAl.out).later (belowN _ _)))))
          go_wp2_with fail
          go_ret
          exact ⟨retBool (by rw [HFr2.out, g4]; simp), HAl.out.trans ((belowN _ _).mono HAl.out.size)⟩
        · cases g5 : wordsF C
          · have C2 : Hid (∀ w : World, Calls Try.prog 72 #[.int .i64 n1] w fun e w' => e = .returned (.bool true) ∧ w' = w) := fun w => by have := l1Word_e n1 w; rw [show inI n1 (-16) 15 = true from g2] at this; exact this
            have C3 : Hid (∀ w : World, Calls Try.prog 50 #[.int .i64 n2, .int .i64 0, .int .i64 cl] w fun e w' => e = .returned (.bool true) ∧ w' = w) := fun w => by have := l6In_e n2 0 cl w; rw [g3] at this; exact this
            have C4 : Hid (∀ w : World, IntsW w (.slice pa rn ka) R → Calls Try.prog 73 #[.slice pa rn ka, .int .i64 3] w fun e w' => e = .returned (.bool true) ∧ w' = w) := fun w hw => by have := l3Words_any w _ R hw; rw [g4] at this; exact this
            have C5 : Hid (∀ w : World, IntsW w (.slice pb cn kb) C → Calls Try.prog 73 #[.slice pb cn kb, .int .i64 3] w fun e w' => e = .returned (.bool false) ∧ w' = w) := fun w hw => by have := l3Words_any w _ C hw; rw [g5] at this; exact this
            go_enter Try.func51, Try.ntmps51
            go_wp2_with fail
            go_quiet (first | (go_at_call 50; with_reducible exact Calls.quiet_of_same (C1.out _)) | (go_at_call 72; with_reducible exact Calls.quiet_of_same (C2.out _)) | (go_at_call 50; with_reducible exact Calls.quiet_of_same (C3.out _)) | (go_at_call 73; with_reducible exact Calls.quiet_of_same (C4.out _ ((HA.out.later HAl.out).later (belowN _ _)))) | (go_at_call 73; with_reducible exact Calls.quiet_of_same (C5.out _ ((HB.out.later HAl.out).later (belowN _ _)))))
            go_wp2_with fail
            go_ret
            exact ⟨retBool (by rw [HFr2.out, g5]; simp), HAl.out.trans ((belowN _ _).mono HAl.out.size)⟩
          · have C2 : Hid (∀ w : World, Calls Try.prog 72 #[.int .i64 n1] w fun e w' => e = .returned (.bool true) ∧ w' = w) := fun w => by have := l1Word_e n1 w; rw [show inI n1 (-16) 15 = true from g2] at this; exact this
            have C3 : Hid (∀ w : World, Calls Try.prog 50 #[.int .i64 n2, .int .i64 0, .int .i64 cl] w fun e w' => e = .returned (.bool true) ∧ w' = w) := fun w => by have := l6In_e n2 0 cl w; rw [g3] at this; exact this
            have C4 : Hid (∀ w : World, IntsW w (.slice pa rn ka) R → Calls Try.prog 73 #[.slice pa rn ka, .int .i64 3] w fun e w' => e = .returned (.bool true) ∧ w' = w) := fun w hw => by have := l3Words_any w _ R hw; rw [g4] at this; exact this
            have C5 : Hid (∀ w : World, IntsW w (.slice pb cn kb) C → Calls Try.prog 73 #[.slice pb cn kb, .int .i64 3] w fun e w' => e = .returned (.bool true) ∧ w' = w) := fun w hw => by have := l3Words_any w _ C hw; rw [g5] at this; exact this
            go_enter Try.func51, Try.ntmps51
            go_wp2_with fail
            go_quiet (first | (go_at_call 50; with_reducible exact Calls.quiet_of_same (C1.out _)) | (go_at_call 72; with_reducible exact Calls.quiet_of_same (C2.out _)) | (go_at_call 50; with_reducible exact Calls.quiet_of_same (C3.out _)) | (go_at_call 73; with_reducible exact Calls.quiet_of_same (C4.out _ ((HA.out.later HAl.out).later (belowN _ _)))) | (go_at_call 73; with_reducible exact Calls.quiet_of_same (C5.out _ ((HB.out.later HAl.out).later (belowN _ _)))) | (go_at_call 50; with_reducible exact Calls.quiet_of_same (l6In_e n5 0 2 _)))
            go_wp2_with fail
            go_ret
            exact ⟨retBool (by rw [HFr2.out, g2, g3, g4, g5]; simp), HAl.out.trans ((belowN _ _).mono HAl.out.size)⟩

end Go.Proofs.Ytbjegekfghihkaa

/-
  Whether a site is ok: the contracts of siteOk and l3SiteOk.
-/
namespace Go.Proofs.Ytbjegekfghihkaa
open Go.RowKit
set_option linter.unusedVariables false
set_option linter.unusedSimpArgs false

theorem eqb (a b : Int) (h : ¬ a = 0) : (a == b) = (!decide (a = 0) && decide (b = a)) := by
  by_cases h6 : a = b
  · subst h6; simp [h]
  · have h7 : ¬ b = a := fun e => h6 e.symm
    simp [h, h6, h7]

set_option maxRecDepth 100000 in
set_option maxHeartbeats 8000000 in
theorem siteOk_any (x0 : World) (B : Nat) (v : Value) (P : List (List I4)) (h : ProgAt x0 B v P) (hok : progOkF P = true) (s : Int × Int × Int) :
    Calls Try.prog 80 #[v, .agg #[.int .i64 s.1, .int .i64 s.2.1, .int .i64 s.2.2]] x0 fun e y => e = .returned (.bool (siteOkF P s)) ∧ Below x0.heap.size x0 y := by
  obtain ⟨n0, n1, n2⟩ := s
  obtain ⟨p, cap, rfl, _⟩ := h.shape
  have H : Hid (ProgAt x0 B (.slice p P.length cap) P) := h
  have hl := progOkF_len hok
  have HOK : Hid (progOkF P = true) := hok
  have hn4 : (P.length : Int) ≤ 4 := by omega
  have hn1 : 1 ≤ (P.length : Int) := by omega
  have HFr : Hid (siteOkF P (n0, n1, n2) = (inI n0 0 (P.length - 1) && inI n1 0 ((P.getD n0.toNat []).length - 1) && !decide (n2 = 0) && decide (faultF ((P.getD n0.toNat []).getD n1.toNat i0) = n2))) := rfl
  generalize hFF : siteOkF P (n0, n1, n2) = FF at HFr
  clear hFF h hok hl
  dsimp only
  have HAl : Hid (Below x0.heap.size x0 (x0.alloc (.cells #[.int .i64 n0, .int .i64 n1, .int .i64 n2] 54))) := (Below.refl _ _).alloc (Nat.le_refl _) _
  by_cases h1 : n0 < 0
  · generalize P.length = pn at *
    go_enter Try.func80, Try.ntmps80
    go_wp2_with fail
    go_quiet (fail)
    go_wp2_with fail
    go_ret
    exact ⟨retBool (by rw [HFr.out, show inI n0 0 (pn - 1) = false by simp [inI]; omega]; rfl), HAl.out.trans ((belowN _ _).mono HAl.out.size)⟩
  · have h1' : decide (n0 < 0) = false := decide_eq_false h1
    by_cases h2 : n0 ≥ (P.length : Int)
    · generalize P.length = pn at *
      go_enter Try.func80, Try.ntmps80
      go_wp2_with fail
      go_quiet (fail)
      go_wp2_with fail
      go_ret
      exact ⟨retBool (by rw [HFr.out, show inI n0 0 (pn - 1) = false by simp [inI]; omega]; rfl), HAl.out.trans ((belowN _ _).mono HAl.out.size)⟩
    · obtain ⟨k, rfl⟩ : ∃ k : Nat, n0 = k := ⟨n0.toNat, by omega⟩
      have hk' : k < P.length := by omega
      have hcode := progOkF_code HOK.out hk'
      obtain ⟨g, o, uu, rfl, hg, hu, hc⟩ := H.out.code hk'
      obtain ⟨pk, ck, rfl, _⟩ := hc.shape
      have HFr2 : Hid (FF = (inI n1 0 ((P.getD k []).length - 1) && !decide (n2 = 0) && decide (faultF ((P.getD k []).getD n1.toNat i0) = n2))) := by
        show FF = _
        rw [HFr.out, show inI (k : Int) 0 (P.length - 1) = true by simp [inI]; omega]; simp
      have HP4 : Hid (P.length ≤ 4) := by show _ ≤ _; omega
      have HCO : Hid ((P.getD k []).length ≤ 8 ∧ ∀ j, j < (P.getD k []).length → insOkF ((P.getD k []).getD j i0) (P.getD k []).length P.length = true) := hcode
      have h2' : decide ((k : Int) ≥ (P.length : Int)) = false := decide_eq_false h2
      have hki : (k : Int) < (P.length : Int) := by omega
      have hc8i : ((P.getD k []).length : Int) ≤ 8 := by have := hcode.1; omega
      have hg1 : g < x0.heap.size + 1 := by omega
      clear HFr hc hcode
      have K00 : Hid (BxN (x0.alloc (.cells #[.int .i64 k, .int .i64 n1, .int .i64 n2] 54)) x0.heap.size [.int .i64 k, .int .i64 n1, .int .i64 n2]) := BxN.new x0 [_, _, _] _
      by_cases h3 : n1 < 0
      · clear HCO
        generalize hcl : (P.getD k []).length = cl at *
        generalize hpn : P.length = pn at *
        clear hcl hpn
        go_enter Try.func80, Try.ntmps80
        go_wp2_with fail
        generalize x0.alloc (.cells #[.int .i64 k, .int .i64 n1, .int .i64 n2] 54) = X at HAl K00 ⊢
        refine wp_region_vals (by kernel_rfl) (by kernel_rfl) (by kernel_rfl) (by kernel_rfl) (fun j => [.pointer (some ⟨x0.heap.size, 0, none⟩), .int .i64 k, .bool false, .bool false, .pointer (some ⟨x0.heap.size, 0, none⟩), .int .i64 k, .slice (some ⟨g, o, none⟩) pn cap, .int .i64 pn, .bool false, .bool false, .bool false, .pointer (some ⟨x0.heap.size, 1, none⟩), .int .i64 n1, .bool true, .bool true, .bool true, undef, undef, undef, undef, undef, undef, undef, undef, undef, undef, .bool true].getD j undef) X (Below.drew (Below.refl _ _)) ?step ⟨#[.slice (some ⟨g, o, none⟩) pn cap, .agg #[.int .i64 k, .int .i64 n1, .int .i64 n2], undef, .pointer (some ⟨x0.heap.size, 0, none⟩), .bool false, .pointer (some ⟨x0.heap.size, 0, none⟩), .int .i64 k, .bool false, .bool false, .pointer (some ⟨x0.heap.size, 0, none⟩), .int .i64 k, .slice (some ⟨g, o, none⟩) pn cap, .int .i64 pn, .bool false, .bool false, .bool false, .pointer (some ⟨x0.heap.size, 1, none⟩), .int .i64 n1, .bool true, .bool true, .bool true, undef, undef, undef, undef, undef, undef, undef, undef, undef, undef, .bool true, undef, undef, undef, undef, undef, undef, undef, undef, undef, undef, undef, undef, undef, undef, undef], []⟩ (by kernel_rfl) ?fin
        case step =>
          intro i o ho ρ y x hBx hdep hout
          rcases i with _ | i
          · obtain rfl := Option.some.inj ho
            have o3 : ρ (.tmp 3) = .pointer (some ⟨x0.heap.size, 0, none⟩) := hout (.tmp 3) rfl
            have ocn : ∀ v, ρ (.const v) = v := fun v => hout (.const v) rfl
            have ofn : ∀ f, ρ (.func f) = .func (.func f) #[] #[] := fun f => hout (.func f) rfl
            clear hdep hout
            refine .inl ⟨?_, ?_⟩
            · rfl
            show Gives _ _ _ (.pointer (some ⟨x0.heap.size, 0, none⟩)) _
            refine Gives.val ?_
            go_simp
          rcases i with _ | i
          · obtain rfl := Option.some.inj ho
            have e0 : ρ (.tmp 5) = .pointer (some ⟨x0.heap.size, 0, none⟩) := (hdep ⟨0, .data⟩ (by simp) rfl).1 5 rfl
            have ocn : ∀ v, ρ (.const v) = v := fun v => hout (.const v) rfl
            have ofn : ∀ f, ρ (.func f) = .func (.func f) #[] #[] := fun f => hout (.func f) rfl
            clear hdep hout
            refine .inl ⟨?_, ?_⟩
            · rfl
            have kb := K00.out.later hBx
            have c0 := kb.c 0 _ rfl
            have c1 := kb.c 1 _ rfl
            have c2 := kb.c 2 _ rfl
            have cl0 := kb.lt
            show Gives _ _ _ (.int .i64 k) _
            refine Gives.val ?_
            go_simp
          rcases i with _ | i
          · obtain rfl := Option.some.inj ho
            have e1 : ρ (.tmp 6) = .int .i64 k := (hdep ⟨1, .data⟩ (by simp) rfl).1 6 rfl
            have ocn : ∀ v, ρ (.const v) = v := fun v => hout (.const v) rfl
            have ofn : ∀ f, ρ (.func f) = .func (.func f) #[] #[] := fun f => hout (.func f) rfl
            clear hdep hout
            refine .inl ⟨?_, ?_⟩
            · rfl
            show Gives _ _ _ (.bool false) _
            refine Gives.val ?_
            go_simp
          rcases i with _ | i
          · obtain rfl := Option.some.inj ho
            have e2 : ρ (.tmp 7) = .bool false := (hdep ⟨2, .data⟩ (by simp) rfl).1 7 rfl
            have ocn : ∀ v, ρ (.const v) = v := fun v => hout (.const v) rfl
            have ofn : ∀ f, ρ (.func f) = .func (.func f) #[] #[] := fun f => hout (.func f) rfl
            clear hdep hout
            refine .inl ⟨?_, ?_⟩
            · rfl
            show Gives _ _ _ (.bool false) _
            refine Gives.val ?_
            go_simp
          rcases i with _ | i
          · obtain rfl := Option.some.inj ho
            have o3 : ρ (.tmp 3) = .pointer (some ⟨x0.heap.size, 0, none⟩) := hout (.tmp 3) rfl
            have yg : y 3 = some false := (hdep ⟨3, .guard⟩ (by simp) rfl).2 8 rfl
            have ocn : ∀ v, ρ (.const v) = v := fun v => hout (.const v) rfl
            have ofn : ∀ f, ρ (.func f) = .func (.func f) #[] #[] := fun f => hout (.func f) rfl
            clear hdep hout
            refine .inl ⟨?_, ?_⟩
            · show (y 3 == some false) = true
              rw [yg]; rfl
            show Gives _ _ _ (.pointer (some ⟨x0.heap.size, 0, none⟩)) _
            refine Gives.val ?_
            go_simp
          rcases i with _ | i
          · obtain rfl := Option.some.inj ho
            have e4 : ρ (.tmp 9) = .pointer (some ⟨x0.heap.size, 0, none⟩) := (hdep ⟨4, .data⟩ (by simp) rfl).1 9 rfl
            have yg : y 3 = some false := (hdep ⟨3, .guard⟩ (by simp) rfl).2 8 rfl
            have ocn : ∀ v, ρ (.const v) = v := fun v => hout (.const v) rfl
            have ofn : ∀ f, ρ (.func f) = .func (.func f) #[] #[] := fun f => hout (.func f) rfl
            clear hdep hout
            refine .inl ⟨?_, ?_⟩
            · show (y 3 == some false) = true
              rw [yg]; rfl
            have kb := K00.out.later hBx
            have c0 := kb.c 0 _ rfl
            have c1 := kb.c 1 _ rfl
            have c2 := kb.c 2 _ rfl
            have cl0 := kb.lt
            show Gives _ _ _ (.int .i64 k) _
            refine Gives.val ?_
            go_simp
          rcases i with _ | i
          · obtain rfl := Option.some.inj ho
            have o0 : ρ (.tmp 0) = .slice (some ⟨g, o, none⟩) pn cap := hout (.tmp 0) rfl
            have yg : y 3 = some false := (hdep ⟨3, .guard⟩ (by simp) rfl).2 8 rfl
            have ocn : ∀ v, ρ (.const v) = v := fun v => hout (.const v) rfl
            have ofn : ∀ f, ρ (.func f) = .func (.func f) #[] #[] := fun f => hout (.func f) rfl
            clear hdep hout
            refine .inl ⟨?_, ?_⟩
            · show (y 3 == some false) = true
              rw [yg]; rfl
            show Gives _ _ _ (.slice (some ⟨g, o, none⟩) pn cap) _
            refine Gives.val ?_
            go_simp
          rcases i with _ | i
          · obtain rfl := Option.some.inj ho
            have e6 : ρ (.tmp 11) = .slice (some ⟨g, o, none⟩) pn cap := (hdep ⟨6, .data⟩ (by simp) rfl).1 11 rfl
            have yg : y 3 = some false := (hdep ⟨3, .guard⟩ (by simp) rfl).2 8 rfl
            have ocn : ∀ v, ρ (.const v) = v := fun v => hout (.const v) rfl
            have ofn : ∀ f, ρ (.func f) = .func (.func f) #[] #[] := fun f => hout (.func f) rfl
            clear hdep hout
            refine .inl ⟨?_, ?_⟩
            · show (y 3 == some false) = true
              rw [yg]; rfl
            show Gives _ _ _ (.int .i64 pn) _
            refine Gives.val ?_
            go_simp
          rcases i with _ | i
          · obtain rfl := Option.some.inj ho
            have e5 : ρ (.tmp 10) = .int .i64 k := (hdep ⟨5, .data⟩ (by simp) rfl).1 10 rfl
            have e7 : ρ (.tmp 12) = .int .i64 pn := (hdep ⟨7, .data⟩ (by simp) rfl).1 12 rfl
            have yg : y 3 = some false := (hdep ⟨3, .guard⟩ (by simp) rfl).2 8 rfl
            have ocn : ∀ v, ρ (.const v) = v := fun v => hout (.const v) rfl
            have ofn : ∀ f, ρ (.func f) = .func (.func f) #[] #[] := fun f => hout (.func f) rfl
            clear hdep hout
            refine .inl ⟨?_, ?_⟩
            · show (y 3 == some false) = true
              rw [yg]; rfl
            show Gives _ _ _ (.bool false) _
            refine Gives.val ?_
            go_simp
          rcases i with _ | i
          · obtain rfl := Option.some.inj ho
            have e3 : ρ (.tmp 8) = .bool false := (hdep ⟨3, .data⟩ (by simp) rfl).1 8 rfl
            have e8 : ρ (.tmp 13) = .bool false := (hdep ⟨8, .data⟩ (by simp) rfl).1 13 rfl
            have ocn : ∀ v, ρ (.const v) = v := fun v => hout (.const v) rfl
            have ofn : ∀ f, ρ (.func f) = .func (.func f) #[] #[] := fun f => hout (.func f) rfl
            clear hdep hout
            refine .inl ⟨?_, ?_⟩
            · rfl
            show Gives _ _ _ (.bool false) _
            refine Gives.val ?_
            go_simp
          rcases i with _ | i
          · obtain rfl := Option.some.inj ho
            have e9 : ρ (.tmp 14) = .bool false := (hdep ⟨9, .data⟩ (by simp) rfl).1 14 rfl
            have ocn : ∀ v, ρ (.const v) = v := fun v => hout (.const v) rfl
            have ofn : ∀ f, ρ (.func f) = .func (.func f) #[] #[] := fun f => hout (.func f) rfl
            clear hdep hout
            refine .inl ⟨?_, ?_⟩
            · rfl
            show Gives _ _ _ (.bool false) _
            refine Gives.val ?_
            go_simp
          rcases i with _ | i
          · obtain rfl := Option.some.inj ho
            have o3 : ρ (.tmp 3) = .pointer (some ⟨x0.heap.size, 0, none⟩) := hout (.tmp 3) rfl
            have yg : y 10 = some false := (hdep ⟨10, .guard⟩ (by simp) rfl).2 15 rfl
            have ocn : ∀ v, ρ (.const v) = v := fun v => hout (.const v) rfl
            have ofn : ∀ f, ρ (.func f) = .func (.func f) #[] #[] := fun f => hout (.func f) rfl
            clear hdep hout
            refine .inl ⟨?_, ?_⟩
            · show (y 10 == some false) = true
              rw [yg]; rfl
            show Gives _ _ _ (.pointer (some ⟨x0.heap.size, 1, none⟩)) _
            refine Gives.val ?_
            go_simp
          rcases i with _ | i
          · obtain rfl := Option.some.inj ho
            have e11 : ρ (.tmp 16) = .pointer (some ⟨x0.heap.size, 1, none⟩) := (hdep ⟨11, .data⟩ (by simp) rfl).1 16 rfl
            have yg : y 10 = some false := (hdep ⟨10, .guard⟩ (by simp) rfl).2 15 rfl
            have ocn : ∀ v, ρ (.const v) = v := fun v => hout (.const v) rfl
            have ofn : ∀ f, ρ (.func f) = .func (.func f) #[] #[] := fun f => hout (.func f) rfl
            clear hdep hout
            refine .inl ⟨?_, ?_⟩
            · show (y 10 == some false) = true
              rw [yg]; rfl
            have kb := K00.out.later hBx
            have c0 := kb.c 0 _ rfl
            have c1 := kb.c 1 _ rfl
            have c2 := kb.c 2 _ rfl
            have cl0 := kb.lt
            show Gives _ _ _ (.int .i64 n1) _
            refine Gives.val ?_
            go_simp
          rcases i with _ | i
          · obtain rfl := Option.some.inj ho
            have e12 : ρ (.tmp 17) = .int .i64 n1 := (hdep ⟨12, .data⟩ (by simp) rfl).1 17 rfl
            have yg : y 10 = some false := (hdep ⟨10, .guard⟩ (by simp) rfl).2 15 rfl
            have ocn : ∀ v, ρ (.const v) = v := fun v => hout (.const v) rfl
            have ofn : ∀ f, ρ (.func f) = .func (.func f) #[] #[] := fun f => hout (.func f) rfl
            clear hdep hout
            refine .inl ⟨?_, ?_⟩
            · show (y 10 == some false) = true
              rw [yg]; rfl
            show Gives _ _ _ (.bool true) _
            refine Gives.val ?_
            go_simp
          rcases i with _ | i
          · obtain rfl := Option.some.inj ho
            have e10 : ρ (.tmp 15) = .bool false := (hdep ⟨10, .data⟩ (by simp) rfl).1 15 rfl
            have e13 : ρ (.tmp 18) = .bool true := (hdep ⟨13, .data⟩ (by simp) rfl).1 18 rfl
            have ocn : ∀ v, ρ (.const v) = v := fun v => hout (.const v) rfl
            have ofn : ∀ f, ρ (.func f) = .func (.func f) #[] #[] := fun f => hout (.func f) rfl
            clear hdep hout
            refine .inl ⟨?_, ?_⟩
            · rfl
            show Gives _ _ _ (.bool true) _
            refine Gives.val ?_
            go_simp
          rcases i with _ | i
          · obtain rfl := Option.some.inj ho
            have e14 : ρ (.tmp 19) = .bool true := (hdep ⟨14, .data⟩ (by simp) rfl).1 19 rfl
            have ocn : ∀ v, ρ (.const v) = v := fun v => hout (.const v) rfl
            have ofn : ∀ f, ρ (.func f) = .func (.func f) #[] #[] := fun f => hout (.func f) rfl
            clear hdep hout
            refine .inl ⟨?_, ?_⟩
            · rfl
            show Gives _ _ _ (.bool true) _
            refine Gives.val ?_
            go_simp
          rcases i with _ | i
          · obtain rfl := Option.some.inj ho
            have o3 : ρ (.tmp 3) = .pointer (some ⟨x0.heap.size, 0, none⟩) := hout (.tmp 3) rfl
            have yg : y 15 = some true := (hdep ⟨15, .guard⟩ (by simp) rfl).2 20 rfl
            have ocn : ∀ v, ρ (.const v) = v := fun v => hout (.const v) rfl
            have ofn : ∀ f, ρ (.func f) = .func (.func f) #[] #[] := fun f => hout (.func f) rfl
            clear hdep hout
            refine .inr ⟨?_, rfl⟩
            show (y 15 == some false) = false
            rw [yg]; rfl
          rcases i with _ | i
          · obtain rfl := Option.some.inj ho
            have e16 : ρ (.tmp 21) = undef := (hdep ⟨16, .data⟩ (by simp) rfl).1 21 rfl
            have yg : y 15 = some true := (hdep ⟨15, .guard⟩ (by simp) rfl).2 20 rfl
            have ocn : ∀ v, ρ (.const v) = v := fun v => hout (.const v) rfl
            have ofn : ∀ f, ρ (.func f) = .func (.func f) #[] #[] := fun f => hout (.func f) rfl
            clear hdep hout
            refine .inr ⟨?_, rfl⟩
            show (y 15 == some false) = false
            rw [yg]; rfl
          rcases i with _ | i
          · obtain rfl := Option.some.inj ho
            have o0 : ρ (.tmp 0) = .slice (some ⟨g, o, none⟩) pn cap := hout (.tmp 0) rfl
            have yg : y 15 = some true := (hdep ⟨15, .guard⟩ (by simp) rfl).2 20 rfl
            have ocn : ∀ v, ρ (.const v) = v := fun v => hout (.const v) rfl
            have ofn : ∀ f, ρ (.func f) = .func (.func f) #[] #[] := fun f => hout (.func f) rfl
            clear hdep hout
            refine .inr ⟨?_, rfl⟩
            show (y 15 == some false) = false
            rw [yg]; rfl
          rcases i with _ | i
          · obtain rfl := Option.some.inj ho
            have o3 : ρ (.tmp 3) = .pointer (some ⟨x0.heap.size, 0, none⟩) := hout (.tmp 3) rfl
            have yg : y 15 = some true := (hdep ⟨15, .guard⟩ (by simp) rfl).2 20 rfl
            have ocn : ∀ v, ρ (.const v) = v := fun v => hout (.const v) rfl
            have ofn : ∀ f, ρ (.func f) = .func (.func f) #[] #[] := fun f => hout (.func f) rfl
            clear hdep hout
            refine .inr ⟨?_, rfl⟩
            show (y 15 == some false) = false
            rw [yg]; rfl
          rcases i with _ | i
          · obtain rfl := Option.some.inj ho
            have e19 : ρ (.tmp 24) = undef := (hdep ⟨19, .data⟩ (by simp) rfl).1 24 rfl
            have yg : y 15 = some true := (hdep ⟨15, .guard⟩ (by simp) rfl).2 20 rfl
            have ocn : ∀ v, ρ (.const v) = v := fun v => hout (.const v) rfl
            have ofn : ∀ f, ρ (.func f) = .func (.func f) #[] #[] := fun f => hout (.func f) rfl
            clear hdep hout
            refine .inr ⟨?_, rfl⟩
            show (y 15 == some false) = false
            rw [yg]; rfl
          rcases i with _ | i
          · obtain rfl := Option.some.inj ho
            have e18 : ρ (.tmp 23) = undef := (hdep ⟨18, .data⟩ (by simp) rfl).1 23 rfl
            have e20 : ρ (.tmp 25) = undef := (hdep ⟨20, .data⟩ (by simp) rfl).1 25 rfl
            have yg : y 15 = some true := (hdep ⟨15, .guard⟩ (by simp) rfl).2 20 rfl
            have ocn : ∀ v, ρ (.const v) = v := fun v => hout (.const v) rfl
            have ofn : ∀ f, ρ (.func f) = .func (.func f) #[] #[] := fun f => hout (.func f) rfl
            clear hdep hout
            refine .inr ⟨?_, rfl⟩
            show (y 15 == some false) = false
            rw [yg]; rfl
          rcases i with _ | i
          · obtain rfl := Option.some.inj ho
            have e21 : ρ (.tmp 26) = undef := (hdep ⟨21, .data⟩ (by simp) rfl).1 26 rfl
            have yg : y 15 = some true := (hdep ⟨15, .guard⟩ (by simp) rfl).2 20 rfl
            have ocn : ∀ v, ρ (.const v) = v := fun v => hout (.const v) rfl
            have ofn : ∀ f, ρ (.func f) = .func (.func f) #[] #[] := fun f => hout (.func f) rfl
            clear hdep hout
            refine .inr ⟨?_, rfl⟩
            show (y 15 == some false) = false
            rw [yg]; rfl
          rcases i with _ | i
          · obtain rfl := Option.some.inj ho
            have e22 : ρ (.tmp 27) = undef := (hdep ⟨22, .data⟩ (by simp) rfl).1 27 rfl
            have yg : y 15 = some true := (hdep ⟨15, .guard⟩ (by simp) rfl).2 20 rfl
            have ocn : ∀ v, ρ (.const v) = v := fun v => hout (.const v) rfl
            have ofn : ∀ f, ρ (.func f) = .func (.func f) #[] #[] := fun f => hout (.func f) rfl
            clear hdep hout
            refine .inr ⟨?_, rfl⟩
            show (y 15 == some false) = false
            rw [yg]; rfl
          rcases i with _ | i
          · obtain rfl := Option.some.inj ho
            have e23 : ρ (.tmp 28) = undef := (hdep ⟨23, .data⟩ (by simp) rfl).1 28 rfl
            have yg : y 15 = some true := (hdep ⟨15, .guard⟩ (by simp) rfl).2 20 rfl
            have ocn : ∀ v, ρ (.const v) = v := fun v => hout (.const v) rfl
            have ofn : ∀ f, ρ (.func f) = .func (.func f) #[] #[] := fun f => hout (.func f) rfl
            clear hdep hout
            refine .inr ⟨?_, rfl⟩
            show (y 15 == some false) = false
            rw [yg]; rfl
          rcases i with _ | i
          · obtain rfl := Option.some.inj ho
            have e17 : ρ (.tmp 22) = undef := (hdep ⟨17, .data⟩ (by simp) rfl).1 22 rfl
            have e24 : ρ (.tmp 29) = undef := (hdep ⟨24, .data⟩ (by simp) rfl).1 29 rfl
            have yg : y 15 = some true := (hdep ⟨15, .guard⟩ (by simp) rfl).2 20 rfl
            have ocn : ∀ v, ρ (.const v) = v := fun v => hout (.const v) rfl
            have ofn : ∀ f, ρ (.func f) = .func (.func f) #[] #[] := fun f => hout (.func f) rfl
            clear hdep hout
            refine .inr ⟨?_, rfl⟩
            show (y 15 == some false) = false
            rw [yg]; rfl
          rcases i with _ | i
          · obtain rfl := Option.some.inj ho
            have e15 : ρ (.tmp 20) = .bool true := (hdep ⟨15, .data⟩ (by simp) rfl).1 20 rfl
            have e25 : ρ (.tmp 30) = undef := (hdep ⟨25, .data⟩ (by simp) rfl).1 30 rfl
            have ocn : ∀ v, ρ (.const v) = v := fun v => hout (.const v) rfl
            have ofn : ∀ f, ρ (.func f) = .func (.func f) #[] #[] := fun f => hout (.func f) rfl
            clear hdep hout
            refine .inl ⟨?_, ?_⟩
            · rfl
            show Gives _ _ _ (.bool true) _
            refine Gives.val ?_
            go_simp
          cases ho
        case fin =>
          intro x hBx
          have hBf := HAl.out.trans (hBx.mono HAl.out.size)
          go_wp2_with fail
          go_ret
          exact ⟨retBool (by rw [HFr2.out, show inI n1 0 (cl - 1) = false by simp [inI]; omega]; rfl), hBf⟩
      · have h3' : decide (n1 < 0) = false := decide_eq_false h3
        by_cases h4 : n1 ≥ ((P.getD k []).length : Int)
        · clear HCO
          generalize hcl : (P.getD k []).length = cl at *
          generalize hpn : P.length = pn at *
          clear hcl hpn
          go_enter Try.func80, Try.ntmps80
          go_wp2_with fail
          generalize x0.alloc (.cells #[.int .i64 k, .int .i64 n1, .int .i64 n2] 54) = X at HAl K00 ⊢
          refine wp_region_vals (by kernel_rfl) (by kernel_rfl) (by kernel_rfl) (by kernel_rfl) (fun j => [.pointer (some ⟨x0.heap.size, 0, none⟩), .int .i64 k, .bool false, .bool false, .pointer (some ⟨x0.heap.size, 0, none⟩), .int .i64 k, .slice (some ⟨g, o, none⟩) pn cap, .int .i64 pn, .bool false, .bool false, .bool false, .pointer (some ⟨x0.heap.size, 1, none⟩), .int .i64 n1, .bool false, .bool false, .bool false, .pointer (some ⟨x0.heap.size, 1, none⟩), .int .i64 n1, .slice (some ⟨g, o, none⟩) pn cap, .pointer (some ⟨x0.heap.size, 0, none⟩), .int .i64 k, .pointer (some ⟨g, o + k, none⟩), .pointer (some ⟨g, o + k, none⟩), .slice pk cl ck, .int .i64 cl, .bool true, .bool true].getD j undef) X (Below.drew (Below.refl _ _)) ?step ⟨#[.slice (some ⟨g, o, none⟩) pn cap, .agg #[.int .i64 k, .int .i64 n1, .int .i64 n2], undef, .pointer (some ⟨x0.heap.size, 0, none⟩), .bool false, .pointer (some ⟨x0.heap.size, 0, none⟩), .int .i64 k, .bool false, .bool false, .pointer (some ⟨x0.heap.size, 0, none⟩), .int .i64 k, .slice (some ⟨g, o, none⟩) pn cap, .int .i64 pn, .bool false, .bool false, .bool false, .pointer (some ⟨x0.heap.size, 1, none⟩), .int .i64 n1, .bool false, .bool false, .bool false, .pointer (some ⟨x0.heap.size, 1, none⟩), .int .i64 n1, .slice (some ⟨g, o, none⟩) pn cap, .pointer (some ⟨x0.heap.size, 0, none⟩), .int .i64 k, .pointer (some ⟨g, o + k, none⟩), .pointer (some ⟨g, o + k, none⟩), .slice pk cl ck, .int .i64 cl, .bool true, .bool true, undef, undef, undef, undef, undef, undef, undef, undef, undef, undef, undef, undef, undef, undef, undef], []⟩ (by kernel_rfl) ?fin
          case step =>
            intro i o ho ρ y x hBx hdep hout
            rcases i with _ | i
            · obtain rfl := Option.some.inj ho
              have o3 : ρ (.tmp 3) = .pointer (some ⟨x0.heap.size, 0, none⟩) := hout (.tmp 3) rfl
              have ocn : ∀ v, ρ (.const v) = v := fun v => hout (.const v) rfl
              have ofn : ∀ f, ρ (.func f) = .func (.func f) #[] #[] := fun f => hout (.func f) rfl
              clear hdep hout
              refine .inl ⟨?_, ?_⟩
              · rfl
              show Gives _ _ _ (.pointer (some ⟨x0.heap.size, 0, none⟩)) _
              refine Gives.val ?_
              go_simp
            rcases i with _ | i
            · obtain rfl := Option.some.inj ho
              have e0 : ρ (.tmp 5) = .pointer (some ⟨x0.heap.size, 0, none⟩) := (hdep ⟨0, .data⟩ (by simp) rfl).1 5 rfl
              have ocn : ∀ v, ρ (.const v) = v := fun v => hout (.const v) rfl
              have ofn : ∀ f, ρ (.func f) = .func (.func f) #[] #[] := fun f => hout (.func f) rfl
              clear hdep hout
              refine .inl ⟨?_, ?_⟩
              · rfl
              have kb := K00.out.later hBx
              have c0 := kb.c 0 _ rfl
              have c1 := kb.c 1 _ rfl
              have c2 := kb.c 2 _ rfl
              have cl0 := kb.lt
              show Gives _ _ _ (.int .i64 k) _
              refine Gives.val ?_
              go_simp
            rcases i with _ | i
            · obtain rfl := Option.some.inj ho
              have e1 : ρ (.tmp 6) = .int .i64 k := (hdep ⟨1, .data⟩ (by simp) rfl).1 6 rfl
              have ocn : ∀ v, ρ (.const v) = v := fun v => hout (.const v) rfl
              have ofn : ∀ f, ρ (.func f) = .func (.func f) #[] #[] := fun f => hout (.func f) rfl
              clear hdep hout
              refine .inl ⟨?_, ?_⟩
              · rfl
              show Gives _ _ _ (.bool false) _
              refine Gives.val ?_
              go_simp
            rcases i with _ | i
            · obtain rfl := Option.some.inj ho
              have e2 : ρ (.tmp 7) = .bool false := (hdep ⟨2, .data⟩ (by simp) rfl).1 7 rfl
              have ocn : ∀ v, ρ (.const v) = v := fun v => hout (.const v) rfl
              have ofn : ∀ f, ρ (.func f) = .func (.func f) #[] #[] := fun f => hout (.func f) rfl
              clear hdep hout
              refine .inl ⟨?_, ?_⟩
              · rfl
              show Gives _ _ _ (.bool false) _
              refine Gives.val ?_
              go_simp
            rcases i with _ | i
            · obtain rfl := Option.some.inj ho
              have o3 : ρ (.tmp 3) = .pointer (some ⟨x0.heap.size, 0, none⟩) := hout (.tmp 3) rfl
              have yg : y 3 = some false := (hdep ⟨3, .guard⟩ (by simp) rfl).2 8 rfl
              have ocn : ∀ v, ρ (.const v) = v := fun v => hout (.const v) rfl
              have ofn : ∀ f, ρ (.func f) = .func (.func f) #[] #[] := fun f => hout (.func f) rfl
              clear hdep hout
              refine .inl ⟨?_, ?_⟩
              · show (y 3 == some false) = true
                rw [yg]; rfl
              show Gives _ _ _ (.pointer (some ⟨x0.heap.size, 0, none⟩)) _
              refine Gives.val ?_
              go_simp
            rcases i with _ | i
            · obtain rfl := Option.some.inj ho
              have e4 : ρ (.tmp 9) = .pointer (some ⟨x0.heap.size, 0, none⟩) := (hdep ⟨4, .data⟩ (by simp) rfl).1 9 rfl
              have yg : y 3 = some false := (hdep ⟨3, .guard⟩ (by simp) rfl).2 8 rfl
              have ocn : ∀ v, ρ (.const v) = v := fun v => hout (.const v) rfl
              have ofn : ∀ f, ρ (.func f) = .func (.func f) #[] #[] := fun f => hout (.func f) rfl
              clear hdep hout
              refine .inl ⟨?_, ?_⟩
              · show (y 3 == some false) = true
                rw [yg]; rfl
              have kb := K00.out.later hBx
              have c0 := kb.c 0 _ rfl
              have c1 := kb.c 1 _ rfl
              have c2 := kb.c 2 _ rfl
              have cl0 := kb.lt
              show Gives _ _ _ (.int .i64 k) _
              refine Gives.val ?_
              go_simp
            rcases i with _ | i
            · obtain rfl := Option.some.inj ho
              have o0 : ρ (.tmp 0) = .slice (some ⟨g, o, none⟩) pn cap := hout (.tmp 0) rfl
              have yg : y 3 = some false := (hdep ⟨3, .guard⟩ (by simp) rfl).2 8 rfl
              have ocn : ∀ v, ρ (.const v) = v := fun v => hout (.const v) rfl
              have ofn : ∀ f, ρ (.func f) = .func (.func f) #[] #[] := fun f => hout (.func f) rfl
              clear hdep hout
              refine .inl ⟨?_, ?_⟩
              · show (y 3 == some false) = true
                rw [yg]; rfl
              show Gives _ _ _ (.slice (some ⟨g, o, none⟩) pn cap) _
              refine Gives.val ?_
              go_simp
            rcases i with _ | i
            · obtain rfl := Option.some.inj ho
              have e6 : ρ (.tmp 11) = .slice (some ⟨g, o, none⟩) pn cap := (hdep ⟨6, .data⟩ (by simp) rfl).1 11 rfl
              have yg : y 3 = some false := (hdep ⟨3, .guard⟩ (by simp) rfl).2 8 rfl
              have ocn : ∀ v, ρ (.const v) = v := fun v => hout (.const v) rfl
              have ofn : ∀ f, ρ (.func f) = .func (.func f) #[] #[] := fun f => hout (.func f) rfl
              clear hdep hout
              refine .inl ⟨?_, ?_⟩
              · show (y 3 == some false) = true
                rw [yg]; rfl
              show Gives _ _ _ (.int .i64 pn) _
              refine Gives.val ?_
              go_simp
            rcases i with _ | i
            · obtain rfl := Option.some.inj ho
              have e5 : ρ (.tmp 10) = .int .i64 k := (hdep ⟨5, .data⟩ (by simp) rfl).1 10 rfl
              have e7 : ρ (.tmp 12) = .int .i64 pn := (hdep ⟨7, .data⟩ (by simp) rfl).1 12 rfl
              have yg : y 3 = some false := (hdep ⟨3, .guard⟩ (by simp) rfl).2 8 rfl
              have ocn : ∀ v, ρ (.const v) = v := fun v => hout (.const v) rfl
              have ofn : ∀ f, ρ (.func f) = .func (.func f) #[] #[] := fun f => hout (.func f) rfl
              clear hdep hout
              refine .inl ⟨?_, ?_⟩
              · show (y 3 == some false) = true
                rw [yg]; rfl
              show Gives _ _ _ (.bool false) _
              refine Gives.val ?_
              go_simp
            rcases i with _ | i
            · obtain rfl := Option.some.inj ho
              have e3 : ρ (.tmp 8) = .bool false := (hdep ⟨3, .data⟩ (by simp) rfl).1 8 rfl
              have e8 : ρ (.tmp 13) = .bool false := (hdep ⟨8, .data⟩ (by simp) rfl).1 13 rfl
              have ocn : ∀ v, ρ (.const v) = v := fun v => hout (.const v) rfl
              have ofn : ∀ f, ρ (.func f) = .func (.func f) #[] #[] := fun f => hout (.func f) rfl
              clear hdep hout
              refine .inl ⟨?_, ?_⟩
              · rfl
              show Gives _ _ _ (.bool false) _
              refine Gives.val ?_
              go_simp
            rcases i with _ | i
            · obtain rfl := Option.some.inj ho
              have e9 : ρ (.tmp 14) = .bool false := (hdep ⟨9, .data⟩ (by simp) rfl).1 14 rfl
              have ocn : ∀ v, ρ (.const v) = v := fun v => hout (.const v) rfl
              have ofn : ∀ f, ρ (.func f) = .func (.func f) #[] #[] := fun f => hout (.func f) rfl
              clear hdep hout
              refine .inl ⟨?_, ?_⟩
              · rfl
              show Gives _ _ _ (.bool false) _
              refine Gives.val ?_
              go_simp
            rcases i with _ | i
            · obtain rfl := Option.some.inj ho
              have o3 : ρ (.tmp 3) = .pointer (some ⟨x0.heap.size, 0, none⟩) := hout (.tmp 3) rfl
              have yg : y 10 = some false := (hdep ⟨10, .guard⟩ (by simp) rfl).2 15 rfl
              have ocn : ∀ v, ρ (.const v) = v := fun v => hout (.const v) rfl
              have ofn : ∀ f, ρ (.func f) = .func (.func f) #[] #[] := fun f => hout (.func f) rfl
              clear hdep hout
              refine .inl ⟨?_, ?_⟩
              · show (y 10 == some false) = true
                rw [yg]; rfl
              show Gives _ _ _ (.pointer (some ⟨x0.heap.size, 1, none⟩)) _
              refine Gives.val ?_
              go_simp
            rcases i with _ | i
            · obtain rfl := Option.some.inj ho
              have e11 : ρ (.tmp 16) = .pointer (some ⟨x0.heap.size, 1, none⟩) := (hdep ⟨11, .data⟩ (by simp) rfl).1 16 rfl
              have yg : y 10 = some false := (hdep ⟨10, .guard⟩ (by simp) rfl).2 15 rfl
              have ocn : ∀ v, ρ (.const v) = v := fun v => hout (.const v) rfl
              have ofn : ∀ f, ρ (.func f) = .func (.func f) #[] #[] := fun f => hout (.func f) rfl
              clear hdep hout
              refine .inl ⟨?_, ?_⟩
              · show (y 10 == some false) = true
                rw [yg]; rfl
              have kb := K00.out.later hBx
              have c0 := kb.c 0 _ rfl
              have c1 := kb.c 1 _ rfl
              have c2 := kb.c 2 _ rfl
              have cl0 := kb.lt
              show Gives _ _ _ (.int .i64 n1) _
              refine Gives.val ?_
              go_simp
            rcases i with _ | i
            · obtain rfl := Option.some.inj ho
              have e12 : ρ (.tmp 17) = .int .i64 n1 := (hdep ⟨12, .data⟩ (by simp) rfl).1 17 rfl
              have yg : y 10 = some false := (hdep ⟨10, .guard⟩ (by simp) rfl).2 15 rfl
              have ocn : ∀ v, ρ (.const v) = v := fun v => hout (.const v) rfl
              have ofn : ∀ f, ρ (.func f) = .func (.func f) #[] #[] := fun f => hout (.func f) rfl
              clear hdep hout
              refine .inl ⟨?_, ?_⟩
              · show (y 10 == some false) = true
                rw [yg]; rfl
              show Gives _ _ _ (.bool false) _
              refine Gives.val ?_
              go_simp
            rcases i with _ | i
            · obtain rfl := Option.some.inj ho
              have e10 : ρ (.tmp 15) = .bool false := (hdep ⟨10, .data⟩ (by simp) rfl).1 15 rfl
              have e13 : ρ (.tmp 18) = .bool false := (hdep ⟨13, .data⟩ (by simp) rfl).1 18 rfl
              have ocn : ∀ v, ρ (.const v) = v := fun v => hout (.const v) rfl
              have ofn : ∀ f, ρ (.func f) = .func (.func f) #[] #[] := fun f => hout (.func f) rfl
              clear hdep hout
              refine .inl ⟨?_, ?_⟩
              · rfl
              show Gives _ _ _ (.bool false) _
              refine Gives.val ?_
              go_simp
            rcases i with _ | i
            · obtain rfl := Option.some.inj ho
              have e14 : ρ (.tmp 19) = .bool false := (hdep ⟨14, .data⟩ (by simp) rfl).1 19 rfl
              have ocn : ∀ v, ρ (.const v) = v := fun v => hout (.const v) rfl
              have ofn : ∀ f, ρ (.func f) = .func (.func f) #[] #[] := fun f => hout (.func f) rfl
              clear hdep hout
              refine .inl ⟨?_, ?_⟩
              · rfl
              show Gives _ _ _ (.bool false) _
              refine Gives.val ?_
              go_simp
            rcases i with _ | i
            · obtain rfl := Option.some.inj ho
              have o3 : ρ (.tmp 3) = .pointer (some ⟨x0.heap.size, 0, none⟩) := hout (.tmp 3) rfl
              have yg : y 15 = some false := (hdep ⟨15, .guard⟩ (by simp) rfl).2 20 rfl
              have ocn : ∀ v, ρ (.const v) = v := fun v => hout (.const v) rfl
              have ofn : ∀ f, ρ (.func f) = .func (.func f) #[] #[] := fun f => hout (.func f) rfl
              clear hdep hout
              refine .inl ⟨?_, ?_⟩
              · show (y 15 == some false) = true
                rw [yg]; rfl
              show Gives _ _ _ (.pointer (some ⟨x0.heap.size, 1, none⟩)) _
              refine Gives.val ?_
              go_simp
            rcases i with _ | i
            · obtain rfl := Option.some.inj ho
              have e16 : ρ (.tmp 21) = .pointer (some ⟨x0.heap.size, 1, none⟩) := (hdep ⟨16, .data⟩ (by simp) rfl).1 21 rfl
              have yg : y 15 = some false := (hdep ⟨15, .guard⟩ (by simp) rfl).2 20 rfl
              have ocn : ∀ v, ρ (.const v) = v := fun v => hout (.const v) rfl
              have ofn : ∀ f, ρ (.func f) = .func (.func f) #[] #[] := fun f => hout (.func f) rfl
              clear hdep hout
              refine .inl ⟨?_, ?_⟩
              · show (y 15 == some false) = true
                rw [yg]; rfl
              have kb := K00.out.later hBx
              have c0 := kb.c 0 _ rfl
              have c1 := kb.c 1 _ rfl
              have c2 := kb.c 2 _ rfl
              have cl0 := kb.lt
              show Gives _ _ _ (.int .i64 n1) _
              refine Gives.val ?_
              go_simp
            rcases i with _ | i
            · obtain rfl := Option.some.inj ho
              have o0 : ρ (.tmp 0) = .slice (some ⟨g, o, none⟩) pn cap := hout (.tmp 0) rfl
              have yg : y 15 = some false := (hdep ⟨15, .guard⟩ (by simp) rfl).2 20 rfl
              have ocn : ∀ v, ρ (.const v) = v := fun v => hout (.const v) rfl
              have ofn : ∀ f, ρ (.func f) = .func (.func f) #[] #[] := fun f => hout (.func f) rfl
              clear hdep hout
              refine .inl ⟨?_, ?_⟩
              · show (y 15 == some false) = true
                rw [yg]; rfl
              show Gives _ _ _ (.slice (some ⟨g, o, none⟩) pn cap) _
              refine Gives.val ?_
              go_simp
            rcases i with _ | i
            · obtain rfl := Option.some.inj ho
              have o3 : ρ (.tmp 3) = .pointer (some ⟨x0.heap.size, 0, none⟩) := hout (.tmp 3) rfl
              have yg : y 15 = some false := (hdep ⟨15, .guard⟩ (by simp) rfl).2 20 rfl
              have ocn : ∀ v, ρ (.const v) = v := fun v => hout (.const v) rfl
              have ofn : ∀ f, ρ (.func f) = .func (.func f) #[] #[] := fun f => hout (.func f) rfl
              clear hdep hout
              refine .inl ⟨?_, ?_⟩
              · show (y 15 == some false) = true
                rw [yg]; rfl
              show Gives _ _ _ (.pointer (some ⟨x0.heap.size, 0, none⟩)) _
              refine Gives.val ?_
              go_simp
            rcases i with _ | i
            · obtain rfl := Option.some.inj ho
              have e19 : ρ (.tmp 24) = .pointer (some ⟨x0.heap.size, 0, none⟩) := (hdep ⟨19, .data⟩ (by simp) rfl).1 24 rfl
              have yg : y 15 = some false := (hdep ⟨15, .guard⟩ (by simp) rfl).2 20 rfl
              have ocn : ∀ v, ρ (.const v) = v := fun v => hout (.const v) rfl
              have ofn : ∀ f, ρ (.func f) = .func (.func f) #[] #[] := fun f => hout (.func f) rfl
              clear hdep hout
              refine .inl ⟨?_, ?_⟩
              · show (y 15 == some false) = true
                rw [yg]; rfl
              have kb := K00.out.later hBx
              have c0 := kb.c 0 _ rfl
              have c1 := kb.c 1 _ rfl
              have c2 := kb.c 2 _ rfl
              have cl0 := kb.lt
              show Gives _ _ _ (.int .i64 k) _
              refine Gives.val ?_
              go_simp
            rcases i with _ | i
            · obtain rfl := Option.some.inj ho
              have e18 : ρ (.tmp 23) = .slice (some ⟨g, o, none⟩) pn cap := (hdep ⟨18, .data⟩ (by simp) rfl).1 23 rfl
              have e20 : ρ (.tmp 25) = .int .i64 k := (hdep ⟨20, .data⟩ (by simp) rfl).1 25 rfl
              have yg : y 15 = some false := (hdep ⟨15, .guard⟩ (by simp) rfl).2 20 rfl
              have ocn : ∀ v, ρ (.const v) = v := fun v => hout (.const v) rfl
              have ofn : ∀ f, ρ (.func f) = .func (.func f) #[] #[] := fun f => hout (.func f) rfl
              clear hdep hout
              refine .inl ⟨?_, ?_⟩
              · show (y 15 == some false) = true
                rw [yg]; rfl
              show Gives _ _ _ (.pointer (some ⟨g, o + k, none⟩)) _
              refine Gives.val ?_
              go_simp
            rcases i with _ | i
            · obtain rfl := Option.some.inj ho
              have e21 : ρ (.tmp 26) = .pointer (some ⟨g, o + k, none⟩) := (hdep ⟨21, .data⟩ (by simp) rfl).1 26 rfl
              have yg : y 15 = some false := (hdep ⟨15, .guard⟩ (by simp) rfl).2 20 rfl
              have ocn : ∀ v, ρ (.const v) = v := fun v => hout (.const v) rfl
              have ofn : ∀ f, ρ (.func f) = .func (.func f) #[] #[] := fun f => hout (.func f) rfl
              clear hdep hout
              refine .inl ⟨?_, ?_⟩
              · show (y 15 == some false) = true
                rw [yg]; rfl
              show Gives _ _ _ (.pointer (some ⟨g, o + k, none⟩)) _
              refine Gives.val ?_
              go_simp
            rcases i with _ | i
            · obtain rfl := Option.some.inj ho
              have e22 : ρ (.tmp 27) = .pointer (some ⟨g, o + k, none⟩) := (hdep ⟨22, .data⟩ (by simp) rfl).1 27 rfl
              have yg : y 15 = some false := (hdep ⟨15, .guard⟩ (by simp) rfl).2 20 rfl
              have ocn : ∀ v, ρ (.const v) = v := fun v => hout (.const v) rfl
              have ofn : ∀ f, ρ (.func f) = .func (.func f) #[] #[] := fun f => hout (.func f) rfl
              clear hdep hout
              refine .inl ⟨?_, ?_⟩
              · show (y 15 == some false) = true
                rw [yg]; rfl
              have hcu := ((HAl.out.trans (hBx.mono HAl.out.size)).cell (p := ⟨g, o + k, none⟩) hg).trans hu
              show Gives _ _ _ (.slice pk cl ck) _
              refine Gives.val ?_
              go_simp
            rcases i with _ | i
            · obtain rfl := Option.some.inj ho
              have e23 : ρ (.tmp 28) = .slice pk cl ck := (hdep ⟨23, .data⟩ (by simp) rfl).1 28 rfl
              have yg : y 15 = some false := (hdep ⟨15, .guard⟩ (by simp) rfl).2 20 rfl
              have ocn : ∀ v, ρ (.const v) = v := fun v => hout (.const v) rfl
              have ofn : ∀ f, ρ (.func f) = .func (.func f) #[] #[] := fun f => hout (.func f) rfl
              clear hdep hout
              refine .inl ⟨?_, ?_⟩
              · show (y 15 == some false) = true
                rw [yg]; rfl
              show Gives _ _ _ (.int .i64 cl) _
              refine Gives.val ?_
              go_simp
            rcases i with _ | i
            · obtain rfl := Option.some.inj ho
              have e17 : ρ (.tmp 22) = .int .i64 n1 := (hdep ⟨17, .data⟩ (by simp) rfl).1 22 rfl
              have e24 : ρ (.tmp 29) = .int .i64 cl := (hdep ⟨24, .data⟩ (by simp) rfl).1 29 rfl
              have yg : y 15 = some false := (hdep ⟨15, .guard⟩ (by simp) rfl).2 20 rfl
              have ocn : ∀ v, ρ (.const v) = v := fun v => hout (.const v) rfl
              have ofn : ∀ f, ρ (.func f) = .func (.func f) #[] #[] := fun f => hout (.func f) rfl
              clear hdep hout
              refine .inl ⟨?_, ?_⟩
              · show (y 15 == some false) = true
                rw [yg]; rfl
              show Gives _ _ _ (.bool true) _
              refine Gives.val ?_
              go_simp
            rcases i with _ | i
            · obtain rfl := Option.some.inj ho
              have e15 : ρ (.tmp 20) = .bool false := (hdep ⟨15, .data⟩ (by simp) rfl).1 20 rfl
              have e25 : ρ (.tmp 30) = .bool true := (hdep ⟨25, .data⟩ (by simp) rfl).1 30 rfl
              have ocn : ∀ v, ρ (.const v) = v := fun v => hout (.const v) rfl
              have ofn : ∀ f, ρ (.func f) = .func (.func f) #[] #[] := fun f => hout (.func f) rfl
              clear hdep hout
              refine .inl ⟨?_, ?_⟩
              · rfl
              show Gives _ _ _ (.bool true) _
              refine Gives.val ?_
              go_simp
            cases ho
          case fin =>
            intro x hBx
            have hBf := HAl.out.trans (hBx.mono HAl.out.size)
            go_wp2_with fail
            go_ret
            exact ⟨retBool (by rw [HFr2.out, show inI n1 0 (cl - 1) = false by simp [inI]; omega]; rfl), hBf⟩
        · have h4' : decide (n1 ≥ ((P.getD k []).length : Int)) = false := decide_eq_false h4
          obtain ⟨a, rfl⟩ : ∃ a : Nat, n1 = a := ⟨n1.toNat, by omega⟩
          have ha' : a < (P.getD k []).length := by omega
          have hins := HCO.out.2 a ha'
          have hkk := insOkF_kind hins
          have HFr3 : Hid (FF = (!decide (n2 = 0) && decide (faultF ((P.getD k []).getD a i0) = n2))) := by
            show FF = _
            rw [HFr2.out, show inI (a : Int) 0 ((P.getD k []).length - 1) = true by simp only [inI, Bool.and_eq_true, decide_eq_true_eq]; omega]; simp
          have HIA : Hid (∀ z : World, Below x0.heap.size x0 z → Calls Try.prog 35 #[.slice (some ⟨g, o, none⟩) P.length cap, .int .i64 k, .int .i64 a] z fun e y => e = .returned (ifcF ((P.getD k []).getD a i0)) ∧ Below z.heap.size z y) := fun z hz => by
            have := insAt_impl z B _ P (H.out.later hz) k a hk' HP4.out (Nat.le_of_lt ha') HCO.out.1
            rw [show insF (P.getD k []) a = ifcF ((P.getD k []).getD a i0) by simp only [insF]; rw [if_neg (Nat.ne_of_lt ha')]] at this
            exact this
          generalize (P.getD k []).getD a i0 = I at *
          have HFO : Hid (∀ z : World, Calls Try.prog 97 #[ifcF I] z fun e y => e = .returned (.int .i64 (faultF I)) ∧ Below z.heap.size z y) := fun z => faultOf_any I hkk.1 hkk.2.1 z
          generalize faultF I = FI at *
          generalize ifcF I = VI at *
          clear HCO HFr2 hins hkk HP4 H
          generalize hcl : (P.getD k []).length = cl at *
          generalize hpn : P.length = pn at *
          clear hcl hpn
          go_enter Try.func80, Try.ntmps80
          go_wp2_with fail
          generalize x0.alloc (.cells #[.int .i64 k, .int .i64 a, .int .i64 n2] 54) = X at HAl K00 ⊢
          refine wp_region_vals (by kernel_rfl) (by kernel_rfl) (by kernel_rfl) (by kernel_rfl) (fun j => [.pointer (some ⟨x0.heap.size, 0, none⟩), .int .i64 k, .bool false, .bool false, .pointer (some ⟨x0.heap.size, 0, none⟩), .int .i64 k, .slice (some ⟨g, o, none⟩) pn cap, .int .i64 pn, .bool false, .bool false, .bool false, .pointer (some ⟨x0.heap.size, 1, none⟩), .int .i64 a, .bool false, .bool false, .bool false, .pointer (some ⟨x0.heap.size, 1, none⟩), .int .i64 a, .slice (some ⟨g, o, none⟩) pn cap, .pointer (some ⟨x0.heap.size, 0, none⟩), .int .i64 k, .pointer (some ⟨g, o + k, none⟩), .pointer (some ⟨g, o + k, none⟩), .slice pk cl ck, .int .i64 cl, .bool false, .bool false].getD j undef) X (Below.drew (Below.refl _ _)) ?step ⟨#[.slice (some ⟨g, o, none⟩) pn cap, .agg #[.int .i64 k, .int .i64 a, .int .i64 n2], undef, .pointer (some ⟨x0.heap.size, 0, none⟩), .bool false, .pointer (some ⟨x0.heap.size, 0, none⟩), .int .i64 k, .bool false, .bool false, .pointer (some ⟨x0.heap.size, 0, none⟩), .int .i64 k, .slice (some ⟨g, o, none⟩) pn cap, .int .i64 pn, .bool false, .bool false, .bool false, .pointer (some ⟨x0.heap.size, 1, none⟩), .int .i64 a, .bool false, .bool false, .bool false, .pointer (some ⟨x0.heap.size, 1, none⟩), .int .i64 a, .slice (some ⟨g, o, none⟩) pn cap, .pointer (some ⟨x0.heap.size, 0, none⟩), .int .i64 k, .pointer (some ⟨g, o + k, none⟩), .pointer (some ⟨g, o + k, none⟩), .slice pk cl ck, .int .i64 cl, .bool false, .bool false, undef, undef, undef, undef, undef, undef, undef, undef, undef, undef, undef, undef, undef, undef, undef], []⟩ (by kernel_rfl) ?fin
          case step =>
            intro i o ho ρ y x hBx hdep hout
            rcases i with _ | i
            · obtain rfl := Option.some.inj ho
              have o3 : ρ (.tmp 3) = .pointer (some ⟨x0.heap.size, 0, none⟩) := hout (.tmp 3) rfl
              have ocn : ∀ v, ρ (.const v) = v := fun v => hout (.const v) rfl
              have ofn : ∀ f, ρ (.func f) = .func (.func f) #[] #[] := fun f => hout (.func f) rfl
              clear hdep hout
              refine .inl ⟨?_, ?_⟩
              · rfl
              show Gives _ _ _ (.pointer (some ⟨x0.heap.size, 0, none⟩)) _
              refine Gives.val ?_
              go_simp
            rcases i with _ | i
            · obtain rfl := Option.some.inj ho
              have e0 : ρ (.tmp 5) = .pointer (some ⟨x0.heap.size, 0, none⟩) := (hdep ⟨0, .data⟩ (by simp) rfl).1 5 rfl
              have ocn : ∀ v, ρ (.const v) = v := fun v => hout (.const v) rfl
              have ofn : ∀ f, ρ (.func f) = .func (.func f) #[] #[] := fun f => hout (.func f) rfl
              clear hdep hout
              refine .inl ⟨?_, ?_⟩
              · rfl
              have kb := K00.out.later hBx
              have c0 := kb.c 0 _ rfl
              have c1 := kb.c 1 _ rfl
              have c2 := kb.c 2 _ rfl
              have cl0 := kb.lt
              show Gives _ _ _ (.int .i64 k) _
              refine Gives.val ?_
              go_simp
            rcases i with _ | i
            · obtain rfl := Option.some.inj ho
              have e1 : ρ (.tmp 6) = .int .i64 k := (hdep ⟨1, .data⟩ (by simp) rfl).1 6 rfl
              have ocn : ∀ v, ρ (.const v) = v := fun v => hout (.const v) rfl
              have ofn : ∀ f, ρ (.func f) = .func (.func f) #[] #[] := fun f => hout (.func f) rfl
              clear hdep hout
              refine .inl ⟨?_, ?_⟩
              · rfl
              show Gives _ _ _ (.bool false) _
              refine Gives.val ?_
              go_simp
            rcases i with _ | i
            · obtain rfl := Option.some.inj ho
              have e2 : ρ (.tmp 7) = .bool false := (hdep ⟨2, .data⟩ (by simp) rfl).1 7 rfl
              have ocn : ∀ v, ρ (.const v) = v := fun v => hout (.const v) rfl
              have ofn : ∀ f, ρ (.func f) = .func (.func f) #[] #[] := fun f => hout (.func f) rfl
              clear hdep hout
              refine .inl ⟨?_, ?_⟩
              · rfl
              show Gives _ _ _ (.bool false) _
              refine Gives.val ?_
              go_simp
            rcases i with _ | i
            · obtain rfl := Option.some.inj ho
              have o3 : ρ (.tmp 3) = .pointer (some ⟨x0.heap.size, 0, none⟩) := hout (.tmp 3) rfl
              have yg : y 3 = some false := (hdep ⟨3, .guard⟩ (by simp) rfl).2 8 rfl
              have ocn : ∀ v, ρ (.const v) = v := fun v => hout (.const v) rfl
              have ofn : ∀ f, ρ (.func f) = .func (.func f) #[] #[] := fun f => hout (.func f) rfl
              clear hdep hout
              refine .inl ⟨?_, ?_⟩
              · show (y 3 == some false) = true
                rw [yg]; rfl
              show Gives _ _ _ (.pointer (some ⟨x0.heap.size, 0, none⟩)) _
              refine Gives.val ?_
              go_simp
            rcases i with _ | i
            · obtain rfl := Option.some.inj ho
              have e4 : ρ (.tmp 9) = .pointer (some ⟨x0.heap.size, 0, none⟩) := (hdep ⟨4, .data⟩ (by simp) rfl).1 9 rfl
              have yg : y 3 = some false := (hdep ⟨3, .guard⟩ (by simp) rfl).2 8 rfl
              have ocn : ∀ v, ρ (.const v) = v := fun v => hout (.const v) rfl
              have ofn : ∀ f, ρ (.func f) = .func (.func f) #[] #[] := fun f => hout (.func f) rfl
              clear hdep hout
              refine .inl ⟨?_, ?_⟩
              · show (y 3 == some false) = true
                rw [yg]; rfl
              have kb := K00.out.later hBx
              have c0 := kb.c 0 _ rfl
              have c1 := kb.c 1 _ rfl
              have c2 := kb.c 2 _ rfl
              have cl0 := kb.lt
              show Gives _ _ _ (.int .i64 k) _
              refine Gives.val ?_
              go_simp
            rcases i with _ | i
            · obtain rfl := Option.some.inj ho
              have o0 : ρ (.tmp 0) = .slice (some ⟨g, o, none⟩) pn cap := hout (.tmp 0) rfl
              have yg : y 3 = some false := (hdep ⟨3, .guard⟩ (by simp) rfl).2 8 rfl
              have ocn : ∀ v, ρ (.const v) = v := fun v => hout (.const v) rfl
              have ofn : ∀ f, ρ (.func f) = .func (.func f) #[] #[] := fun f => hout (.func f) rfl
              clear hdep hout
              refine .inl ⟨?_, ?_⟩
              · show (y 3 == some false) = true
                rw [yg]; rfl
              show Gives _ _ _ (.slice (some ⟨g, o, none⟩) pn cap) _
              refine Gives.val ?_
              go_simp
            rcases i with _ | i
            · obtain rfl := Option.some.inj ho
              have e6 : ρ (.tmp 11) = .slice (some ⟨g, o, none⟩) pn cap := (hdep ⟨6, .data⟩ (by simp) rfl).1 11 rfl
              have yg : y 3 = some false := (hdep ⟨3, .guard⟩ (by simp) rfl).2 8 rfl
              have ocn : ∀ v, ρ (.const v) = v := fun v => hout (.const v) rfl
              have ofn : ∀ f, ρ (.func f) = .func (.func f) #[] #[] := fun f => hout (.func f) rfl
              clear hdep hout
              refine .inl ⟨?_, ?_⟩
              · show (y 3 == some false) = true
                rw [yg]; rfl
              show Gives _ _ _ (.int .i64 pn) _
              refine Gives.val ?_
              go_simp
            rcases i with _ | i
            · obtain rfl := Option.some.inj ho
              have e5 : ρ (.tmp 10) = .int .i64 k := (hdep ⟨5, .data⟩ (by simp) rfl).1 10 rfl
              have e7 : ρ (.tmp 12) = .int .i64 pn := (hdep ⟨7, .data⟩ (by simp) rfl).1 12 rfl
              have yg : y 3 = some false := (hdep ⟨3, .guard⟩ (by simp) rfl).2 8 rfl
              have ocn : ∀ v, ρ (.const v) = v := fun v => hout (.const v) rfl
              have ofn : ∀ f, ρ (.func f) = .func (.func f) #[] #[] := fun f => hout (.func f) rfl
              clear hdep hout
              refine .inl ⟨?_, ?_⟩
              · show (y 3 == some false) = true
                rw [yg]; rfl
              show Gives _ _ _ (.bool false) _
              refine Gives.val ?_
              go_simp
            rcases i with _ | i
            · obtain rfl := Option.some.inj ho
              have e3 : ρ (.tmp 8) = .bool false := (hdep ⟨3, .data⟩ (by simp) rfl).1 8 rfl
              have e8 : ρ (.tmp 13) = .bool false := (hdep ⟨8, .data⟩ (by simp) rfl).1 13 rfl
              have ocn : ∀ v, ρ (.const v) = v := fun v => hout (.const v) rfl
              have ofn : ∀ f, ρ (.func f) = .func (.func f) #[] #[] := fun f => hout (.func f) rfl
              clear hdep hout
              refine .inl ⟨?_, ?_⟩
              · rfl
              show Gives _ _ _ (.bool false) _
              refine Gives.val ?_
              go_simp
            rcases i with _ | i
            · obtain rfl := Option.some.inj ho
              have e9 : ρ (.tmp 14) = .bool false := (hdep ⟨9, .data⟩ (by simp) rfl).1 14 rfl
              have ocn : ∀ v, ρ (.const v) = v := fun v => hout (.const v) rfl
              have ofn : ∀ f, ρ (.func f) = .func (.func f) #[] #[] := fun f => hout (.func f) rfl
              clear hdep hout
              refine .inl ⟨?_, ?_⟩
              · rfl
              show Gives _ _ _ (.bool false) _
              refine Gives.val ?_
              go_simp
            rcases i with _ | i
            · obtain rfl := Option.some.inj ho
              have o3 : ρ (.tmp 3) = .pointer (some ⟨x0.heap.size, 0, none⟩) := hout (.tmp 3) rfl
              have yg : y 10 = some false := (hdep ⟨10, .guard⟩ (by simp) rfl).2 15 rfl
              have ocn : ∀ v, ρ (.const v) = v := fun v => hout (.const v) rfl
              have ofn : ∀ f, ρ (.func f) = .func (.func f) #[] #[] := fun f => hout (.func f) rfl
              clear hdep hout
              refine .inl ⟨?_, ?_⟩
              · show (y 10 == some false) = true
                rw [yg]; rfl
              show Gives _ _ _ (.pointer (some ⟨x0.heap.size, 1, none⟩)) _
              refine Gives.val ?_
              go_simp
            rcases i with _ | i
            · obtain rfl := Option.some.inj ho
              have e11 : ρ (.tmp 16) = .pointer (some ⟨x0.heap.size, 1, none⟩) := (hdep ⟨11, .data⟩ (by simp) rfl).1 16 rfl
              have yg : y 10 = some false := (hdep ⟨10, .guard⟩ (by simp) rfl).2 15 rfl
              have ocn : ∀ v, ρ (.const v) = v := fun v => hout (.const v) rfl
              have ofn : ∀ f, ρ (.func f) = .func (.func f) #[] #[] := fun f => hout (.func f) rfl
              clear hdep hout
              refine .inl ⟨?_, ?_⟩
              · show (y 10 == some false) = true
                rw [yg]; rfl
              have kb := K00.out.later hBx
              have c0 := kb.c 0 _ rfl
              have c1 := kb.c 1 _ rfl
              have c2 := kb.c 2 _ rfl
              have cl0 := kb.lt
              show Gives _ _ _ (.int .i64 a) _
              refine Gives.val ?_
              go_simp
            rcases i with _ | i
            · obtain rfl := Option.some.inj ho
              have e12 : ρ (.tmp 17) = .int .i64 a := (hdep ⟨12, .data⟩ (by simp) rfl).1 17 rfl
              have yg : y 10 = some false := (hdep ⟨10, .guard⟩ (by simp) rfl).2 15 rfl
              have ocn : ∀ v, ρ (.const v) = v := fun v => hout (.const v) rfl
              have ofn : ∀ f, ρ (.func f) = .func (.func f) #[] #[] := fun f => hout (.func f) rfl
              clear hdep hout
              refine .inl ⟨?_, ?_⟩
              · show (y 10 == some false) = true
                rw [yg]; rfl
              show Gives _ _ _ (.bool false) _
              refine Gives.val ?_
              go_simp
            rcases i with _ | i
            · obtain rfl := Option.some.inj ho
              have e10 : ρ (.tmp 15) = .bool false := (hdep ⟨10, .data⟩ (by simp) rfl).1 15 rfl
              have e13 : ρ (.tmp 18) = .bool false := (hdep ⟨13, .data⟩ (by simp) rfl).1 18 rfl
              have ocn : ∀ v, ρ (.const v) = v := fun v => hout (.const v) rfl
              have ofn : ∀ f, ρ (.func f) = .func (.func f) #[] #[] := fun f => hout (.func f) rfl
              clear hdep hout
              refine .inl ⟨?_, ?_⟩
              · rfl
              show Gives _ _ _ (.bool false) _
              refine Gives.val ?_
              go_simp
            rcases i with _ | i
            · obtain rfl := Option.some.inj ho
              have e14 : ρ (.tmp 19) = .bool false := (hdep ⟨14, .data⟩ (by simp) rfl).1 19 rfl
              have ocn : ∀ v, ρ (.const v) = v := fun v => hout (.const v) rfl
              have ofn : ∀ f, ρ (.func f) = .func (.func f) #[] #[] := fun f => hout (.func f) rfl
              clear hdep hout
              refine .inl ⟨?_, ?_⟩
              · rfl
              show Gives _ _ _ (.bool false) _
              refine Gives.val ?_
              go_simp
            rcases i with _ | i
            · obtain rfl := Option.some.inj ho
              have o3 : ρ (.tmp 3) = .pointer (some ⟨x0.heap.size, 0, none⟩) := hout (.tmp 3) rfl
              have yg : y 15 = some false := (hdep ⟨15, .guard⟩ (by simp) rfl).2 20 rfl
              have ocn : ∀ v, ρ (.const v) = v := fun v => hout (.const v) rfl
              have ofn : ∀ f, ρ (.func f) = .func (.func f) #[] #[] := fun f => hout (.func f) rfl
              clear hdep hout
              refine .inl ⟨?_, ?_⟩
              · show (y 15 == some false) = true
                rw [yg]; rfl
              show Gives _ _ _ (.pointer (some ⟨x0.heap.size, 1, none⟩)) _
              refine Gives.val ?_
              go_simp
            rcases i with _ | i
            · obtain rfl := Option.some.inj ho
              have e16 : ρ (.tmp 21) = .pointer (some ⟨x0.heap.size, 1, none⟩) := (hdep ⟨16, .data⟩ (by simp) rfl).1 21 rfl
              have yg : y 15 = some false := (hdep ⟨15, .guard⟩ (by simp) rfl).2 20 rfl
              have ocn : ∀ v, ρ (.const v) = v := fun v => hout (.const v) rfl
              have ofn : ∀ f, ρ (.func f) = .func (.func f) #[] #[] := fun f => hout (.func f) rfl
              clear hdep hout
              refine .inl ⟨?_, ?_⟩
              · show (y 15 == some false) = true
                rw [yg]; rfl
              have kb := K00.out.later hBx
              have c0 := kb.c 0 _ rfl
              have c1 := kb.c 1 _ rfl
              have c2 := kb.c 2 _ rfl
              have cl0 := kb.lt
              show Gives _ _ _ (.int .i64 a) _
              refine Gives.val ?_
              go_simp
            rcases i with _ | i
            · obtain rfl := Option.some.inj ho
              have o0 : ρ (.tmp 0) = .slice (some ⟨g, o, none⟩) pn cap := hout (.tmp 0) rfl
              have yg : y 15 = some false := (hdep ⟨15, .guard⟩ (by simp) rfl).2 20 rfl
              have ocn : ∀ v, ρ (.const v) = v := fun v => hout (.const v) rfl
              have ofn : ∀ f, ρ (.func f) = .func (.func f) #[] #[] := fun f => hout (.func f) rfl
              clear hdep hout
              refine .inl ⟨?_, ?_⟩
              · show (y 15 == some false) = true
                rw [yg]; rfl
              show Gives _ _ _ (.slice (some ⟨g, o, none⟩) pn cap) _
              refine Gives.val ?_
              go_simp
            rcases i with _ | i
            · obtain rfl := Option.some.inj ho
              have o3 : ρ (.tmp 3) = .pointer (some ⟨x0.heap.size, 0, none⟩) := hout (.tmp 3) rfl
              have yg : y 15 = some false := (hdep ⟨15, .guard⟩ (by simp) rfl).2 20 rfl
              have ocn : ∀ v, ρ (.const v) = v := fun v => hout (.const v) rfl
              have ofn : ∀ f, ρ (.func f) = .func (.func f) #[] #[] := fun f => hout (.func f) rfl
              clear hdep hout
              refine .inl ⟨?_, ?_⟩
              · show (y 15 == some false) = true
                rw [yg]; rfl
              show Gives _ _ _ (.pointer (some ⟨x0.heap.size, 0, none⟩)) _
              refine Gives.val ?_
              go_simp
            rcases i with _ | i
            · obtain rfl := Option.some.inj ho
              have e19 : ρ (.tmp 24) = .pointer (some ⟨x0.heap.size, 0, none⟩) := (hdep ⟨19, .data⟩ (by simp) rfl).1 24 rfl
              have yg : y 15 = some false := (hdep ⟨15, .guard⟩ (by simp) rfl).2 20 rfl
              have ocn : ∀ v, ρ (.const v) = v := fun v => hout (.const v) rfl
              have ofn : ∀ f, ρ (.func f) = .func (.func f) #[] #[] := fun f => hout (.func f) rfl
              clear hdep hout
              refine .inl ⟨?_, ?_⟩
              · show (y 15 == some false) = true
                rw [yg]; rfl
              have kb := K00.out.later hBx
              have c0 := kb.c 0 _ rfl
              have c1 := kb.c 1 _ rfl
              have c2 := kb.c 2 _ rfl
              have cl0 := kb.lt
              show Gives _ _ _ (.int .i64 k) _
              refine Gives.val ?_
              go_simp
            rcases i with _ | i
            · obtain rfl := Option.some.inj ho
              have e18 : ρ (.tmp 23) = .slice (some ⟨g, o, none⟩) pn cap := (hdep ⟨18, .data⟩ (by simp) rfl).1 23 rfl
              have e20 : ρ (.tmp 25) = .int .i64 k := (hdep ⟨20, .data⟩ (by simp) rfl).1 25 rfl
              have yg : y 15 = some false := (hdep ⟨15, .guard⟩ (by simp) rfl).2 20 rfl
              have ocn : ∀ v, ρ (.const v) = v := fun v => hout (.const v) rfl
              have ofn : ∀ f, ρ (.func f) = .func (.func f) #[] #[] := fun f => hout (.func f) rfl
              clear hdep hout
              refine .inl ⟨?_, ?_⟩
              · show (y 15 == some false) = true
                rw [yg]; rfl
              show Gives _ _ _ (.pointer (some ⟨g, o + k, none⟩)) _
              refine Gives.val ?_
              go_simp
            rcases i with _ | i
            · obtain rfl := Option.some.inj ho
              have e21 : ρ (.tmp 26) = .pointer (some ⟨g, o + k, none⟩) := (hdep ⟨21, .data⟩ (by simp) rfl).1 26 rfl
              have yg : y 15 = some false := (hdep ⟨15, .guard⟩ (by simp) rfl).2 20 rfl
              have ocn : ∀ v, ρ (.const v) = v := fun v => hout (.const v) rfl
              have ofn : ∀ f, ρ (.func f) = .func (.func f) #[] #[] := fun f => hout (.func f) rfl
              clear hdep hout
              refine .inl ⟨?_, ?_⟩
              · show (y 15 == some false) = true
                rw [yg]; rfl
              show Gives _ _ _ (.pointer (some ⟨g, o + k, none⟩)) _
              refine Gives.val ?_
              go_simp
            rcases i with _ | i
            · obtain rfl := Option.some.inj ho
              have e22 : ρ (.tmp 27) = .pointer (some ⟨g, o + k, none⟩) := (hdep ⟨22, .data⟩ (by simp) rfl).1 27 rfl
              have yg : y 15 = some false := (hdep ⟨15, .guard⟩ (by simp) rfl).2 20 rfl
              have ocn : ∀ v, ρ (.const v) = v := fun v => hout (.const v) rfl
              have ofn : ∀ f, ρ (.func f) = .func (.func f) #[] #[] := fun f => hout (.func f) rfl
              clear hdep hout
              refine .inl ⟨?_, ?_⟩
              · show (y 15 == some false) = true
                rw [yg]; rfl
              have hcu := ((HAl.out.trans (hBx.mono HAl.out.size)).cell (p := ⟨g, o + k, none⟩) hg).trans hu
              show Gives _ _ _ (.slice pk cl ck) _
              refine Gives.val ?_
              go_simp
            rcases i with _ | i
            · obtain rfl := Option.some.inj ho
              have e23 : ρ (.tmp 28) = .slice pk cl ck := (hdep ⟨23, .data⟩ (by simp) rfl).1 28 rfl
              have yg : y 15 = some false := (hdep ⟨15, .guard⟩ (by simp) rfl).2 20 rfl
              have ocn : ∀ v, ρ (.const v) = v := fun v => hout (.const v) rfl
              have ofn : ∀ f, ρ (.func f) = .func (.func f) #[] #[] := fun f => hout (.func f) rfl
              clear hdep hout
              refine .inl ⟨?_, ?_⟩
              · show (y 15 == some false) = true
                rw [yg]; rfl
              show Gives _ _ _ (.int .i64 cl) _
              refine Gives.val ?_
              go_simp
            rcases i with _ | i
            · obtain rfl := Option.some.inj ho
              have e17 : ρ (.tmp 22) = .int .i64 a := (hdep ⟨17, .data⟩ (by simp) rfl).1 22 rfl
              have e24 : ρ (.tmp 29) = .int .i64 cl := (hdep ⟨24, .data⟩ (by simp) rfl).1 29 rfl
              have yg : y 15 = some false := (hdep ⟨15, .guard⟩ (by simp) rfl).2 20 rfl
              have ocn : ∀ v, ρ (.const v) = v := fun v => hout (.const v) rfl
              have ofn : ∀ f, ρ (.func f) = .func (.func f) #[] #[] := fun f => hout (.func f) rfl
              clear hdep hout
              refine .inl ⟨?_, ?_⟩
              · show (y 15 == some false) = true
                rw [yg]; rfl
              show Gives _ _ _ (.bool false) _
              refine Gives.val ?_
              go_simp
            rcases i with _ | i
            · obtain rfl := Option.some.inj ho
              have e15 : ρ (.tmp 20) = .bool false := (hdep ⟨15, .data⟩ (by simp) rfl).1 20 rfl
              have e25 : ρ (.tmp 30) = .bool false := (hdep ⟨25, .data⟩ (by simp) rfl).1 30 rfl
              have ocn : ∀ v, ρ (.const v) = v := fun v => hout (.const v) rfl
              have ofn : ∀ f, ρ (.func f) = .func (.func f) #[] #[] := fun f => hout (.func f) rfl
              clear hdep hout
              refine .inl ⟨?_, ?_⟩
              · rfl
              show Gives _ _ _ (.bool false) _
              refine Gives.val ?_
              go_simp
            cases ho
          case fin =>
            intro z hBz
            have HZB : Hid (Below x0.heap.size x0 z) := HAl.out.trans (hBz.mono HAl.out.size)
            have K0 := K00.out.laterH hBz
            clear hBz K00 HAl
            by_cases h5 : n2 = 0
            · have h5n : (n2 != 0) = false := by simp [h5]
              go_wp2_with fail
              refine wp_region_vals (by kernel_rfl) (by kernel_rfl) (by kernel_rfl) (by kernel_rfl) (fun j => [.pointer (some ⟨x0.heap.size, 2, none⟩), .int .i64 n2, .bool false, .bool false, undef, undef, undef, undef, undef, undef, undef, undef, undef, undef, .bool false, .bool false].getD j undef) z (Below.drew (Below.refl _ _)) ?step ⟨#[.slice (some ⟨g, o, none⟩) pn cap, .agg #[.int .i64 k, .int .i64 a, .int .i64 n2], undef, .pointer (some ⟨x0.heap.size, 0, none⟩), .bool false, .pointer (some ⟨x0.heap.size, 0, none⟩), .int .i64 k, .bool false, .bool false, .pointer (some ⟨x0.heap.size, 0, none⟩), .int .i64 k, .slice (some ⟨g, o, none⟩) pn cap, .int .i64 pn, .bool false, .bool false, .bool false, .pointer (some ⟨x0.heap.size, 1, none⟩), .int .i64 a, .bool false, .bool false, .bool false, .pointer (some ⟨x0.heap.size, 1, none⟩), .int .i64 a, .slice (some ⟨g, o, none⟩) pn cap, .pointer (some ⟨x0.heap.size, 0, none⟩), .int .i64 k, .pointer (some ⟨g, o + k, none⟩), .pointer (some ⟨g, o + k, none⟩), .slice pk cl ck, .int .i64 cl, .bool false, .bool false, .pointer (some ⟨x0.heap.size, 2, none⟩), .int .i64 n2, .bool false, .bool false, undef, undef, undef, undef, undef, undef, undef, undef, undef, undef, .bool false], []⟩ (by kernel_rfl) ?fin
              case step =>
                intro i o ho ρ y x hBx hdep hout
                rcases i with _ | i
                · obtain rfl := Option.some.inj ho
                  have o3 : ρ (.tmp 3) = .pointer (some ⟨x0.heap.size, 0, none⟩) := hout (.tmp 3) rfl
                  have ocn : ∀ v, ρ (.const v) = v := fun v => hout (.const v) rfl
                  have ofn : ∀ f, ρ (.func f) = .func (.func f) #[] #[] := fun f => hout (.func f) rfl
                  clear hdep hout
                  refine .inl ⟨?_, ?_⟩
                  · rfl
                  show Gives _ _ _ (.pointer (some ⟨x0.heap.size, 2, none⟩)) _
                  refine Gives.val ?_
                  go_simp
                rcases i with _ | i
                · obtain rfl := Option.some.inj ho
                  have e0 : ρ (.tmp 32) = .pointer (some ⟨x0.heap.size, 2, none⟩) := (hdep ⟨0, .data⟩ (by simp) rfl).1 32 rfl
                  have ocn : ∀ v, ρ (.const v) = v := fun v => hout (.const v) rfl
                  have ofn : ∀ f, ρ (.func f) = .func (.func f) #[] #[] := fun f => hout (.func f) rfl
                  clear hdep hout
                  refine .inl ⟨?_, ?_⟩
                  · rfl
                  have kb := K0.out.later hBx
                  have c0 := kb.c 0 _ rfl
                  have c1 := kb.c 1 _ rfl
                  have c2 := kb.c 2 _ rfl
                  have cl0 := kb.lt
                  show Gives _ _ _ (.int .i64 n2) _
                  refine Gives.val ?_
                  go_simp
                rcases i with _ | i
                · obtain rfl := Option.some.inj ho
                  have e1 : ρ (.tmp 33) = .int .i64 n2 := (hdep ⟨1, .data⟩ (by simp) rfl).1 33 rfl
                  have ocn : ∀ v, ρ (.const v) = v := fun v => hout (.const v) rfl
                  have ofn : ∀ f, ρ (.func f) = .func (.func f) #[] #[] := fun f => hout (.func f) rfl
                  clear hdep hout
                  refine .inl ⟨?_, ?_⟩
                  · rfl
                  show Gives _ _ _ (.bool false) _
                  refine Gives.val ?_
                  go_simp
                rcases i with _ | i
                · obtain rfl := Option.some.inj ho
                  have e2 : ρ (.tmp 34) = .bool false := (hdep ⟨2, .data⟩ (by simp) rfl).1 34 rfl
                  have ocn : ∀ v, ρ (.const v) = v := fun v => hout (.const v) rfl
                  have ofn : ∀ f, ρ (.func f) = .func (.func f) #[] #[] := fun f => hout (.func f) rfl
                  clear hdep hout
                  refine .inl ⟨?_, ?_⟩
                  · rfl
                  show Gives _ _ _ (.bool false) _
                  refine Gives.val ?_
                  go_simp
                rcases i with _ | i
                · obtain rfl := Option.some.inj ho
                  have o3 : ρ (.tmp 3) = .pointer (some ⟨x0.heap.size, 0, none⟩) := hout (.tmp 3) rfl
                  have yg : y 3 = some false := (hdep ⟨3, .guard⟩ (by simp) rfl).2 35 rfl
                  have ocn : ∀ v, ρ (.const v) = v := fun v => hout (.const v) rfl
                  have ofn : ∀ f, ρ (.func f) = .func (.func f) #[] #[] := fun f => hout (.func f) rfl
                  clear hdep hout
                  refine .inr ⟨?_, rfl⟩
                  show (y 3 == some true) = false
                  rw [yg]; rfl
                rcases i with _ | i
                · obtain rfl := Option.some.inj ho
                  have e4 : ρ (.tmp 36) = undef := (hdep ⟨4, .data⟩ (by simp) rfl).1 36 rfl
                  have yg : y 3 = some false := (hdep ⟨3, .guard⟩ (by simp) rfl).2 35 rfl
                  have ocn : ∀ v, ρ (.const v) = v := fun v => hout (.const v) rfl
                  have ofn : ∀ f, ρ (.func f) = .func (.func f) #[] #[] := fun f => hout (.func f) rfl
                  clear hdep hout
                  refine .inr ⟨?_, rfl⟩
                  show (y 3 == some true) = false
                  rw [yg]; rfl
                rcases i with _ | i
                · obtain rfl := Option.some.inj ho
                  have o0 : ρ (.tmp 0) = .slice (some ⟨g, o, none⟩) pn cap := hout (.tmp 0) rfl
                  have yg : y 3 = some false := (hdep ⟨3, .guard⟩ (by simp) rfl).2 35 rfl
                  have ocn : ∀ v, ρ (.const v) = v := fun v => hout (.const v) rfl
                  have ofn : ∀ f, ρ (.func f) = .func (.func f) #[] #[] := fun f => hout (.func f) rfl
                  clear hdep hout
                  refine .inr ⟨?_, rfl⟩
                  show (y 3 == some true) = false
                  rw [yg]; rfl
                rcases i with _ | i
                · obtain rfl := Option.some.inj ho
                  have o3 : ρ (.tmp 3) = .pointer (some ⟨x0.heap.size, 0, none⟩) := hout (.tmp 3) rfl
                  have yg : y 3 = some false := (hdep ⟨3, .guard⟩ (by simp) rfl).2 35 rfl
                  have ocn : ∀ v, ρ (.const v) = v := fun v => hout (.const v) rfl
                  have ofn : ∀ f, ρ (.func f) = .func (.func f) #[] #[] := fun f => hout (.func f) rfl
                  clear hdep hout
                  refine .inr ⟨?_, rfl⟩
                  show (y 3 == some true) = false
                  rw [yg]; rfl
                rcases i with _ | i
                · obtain rfl := Option.some.inj ho
                  have e7 : ρ (.tmp 39) = undef := (hdep ⟨7, .data⟩ (by simp) rfl).1 39 rfl
                  have yg : y 3 = some false := (hdep ⟨3, .guard⟩ (by simp) rfl).2 35 rfl
                  have ocn : ∀ v, ρ (.const v) = v := fun v => hout (.const v) rfl
                  have ofn : ∀ f, ρ (.func f) = .func (.func f) #[] #[] := fun f => hout (.func f) rfl
                  clear hdep hout
                  refine .inr ⟨?_, rfl⟩
                  show (y 3 == some true) = false
                  rw [yg]; rfl
                rcases i with _ | i
                · obtain rfl := Option.some.inj ho
                  have o3 : ρ (.tmp 3) = .pointer (some ⟨x0.heap.size, 0, none⟩) := hout (.tmp 3) rfl
                  have yg : y 3 = some false := (hdep ⟨3, .guard⟩ (by simp) rfl).2 35 rfl
                  have ocn : ∀ v, ρ (.const v) = v := fun v => hout (.const v) rfl
                  have ofn : ∀ f, ρ (.func f) = .func (.func f) #[] #[] := fun f => hout (.func f) rfl
                  clear hdep hout
                  refine .inr ⟨?_, rfl⟩
                  show (y 3 == some true) = false
                  rw [yg]; rfl
                rcases i with _ | i
                · obtain rfl := Option.some.inj ho
                  have e9 : ρ (.tmp 41) = undef := (hdep ⟨9, .data⟩ (by simp) rfl).1 41 rfl
                  have yg : y 3 = some false := (hdep ⟨3, .guard⟩ (by simp) rfl).2 35 rfl
                  have ocn : ∀ v, ρ (.const v) = v := fun v => hout (.const v) rfl
                  have ofn : ∀ f, ρ (.func f) = .func (.func f) #[] #[] := fun f => hout (.func f) rfl
                  clear hdep hout
                  refine .inr ⟨?_, rfl⟩
                  show (y 3 == some true) = false
                  rw [yg]; rfl
                rcases i with _ | i
                · obtain rfl := Option.some.inj ho
                  have e6 : ρ (.tmp 38) = undef := (hdep ⟨6, .data⟩ (by simp) rfl).1 38 rfl
                  have e8 : ρ (.tmp 40) = undef := (hdep ⟨8, .data⟩ (by simp) rfl).1 40 rfl
                  have e10 : ρ (.tmp 42) = undef := (hdep ⟨10, .data⟩ (by simp) rfl).1 42 rfl
                  have yg : y 3 = some false := (hdep ⟨3, .guard⟩ (by simp) rfl).2 35 rfl
                  have ocn : ∀ v, ρ (.const v) = v := fun v => hout (.const v) rfl
                  have ofn : ∀ f, ρ (.func f) = .func (.func f) #[] #[] := fun f => hout (.func f) rfl
                  clear hdep hout
                  refine .inr ⟨?_, rfl⟩
                  show (y 3 == some true) = false
                  rw [yg]; rfl
                rcases i with _ | i
                · obtain rfl := Option.some.inj ho
                  have e11 : ρ (.tmp 43) = undef := (hdep ⟨11, .data⟩ (by simp) rfl).1 43 rfl
                  have yg : y 3 = some false := (hdep ⟨3, .guard⟩ (by simp) rfl).2 35 rfl
                  have ocn : ∀ v, ρ (.const v) = v := fun v => hout (.const v) rfl
                  have ofn : ∀ f, ρ (.func f) = .func (.func f) #[] #[] := fun f => hout (.func f) rfl
                  clear hdep hout
                  refine .inr ⟨?_, rfl⟩
                  show (y 3 == some true) = false
                  rw [yg]; rfl
                rcases i with _ | i
                · obtain rfl := Option.some.inj ho
                  have e5 : ρ (.tmp 37) = undef := (hdep ⟨5, .data⟩ (by simp) rfl).1 37 rfl
                  have e12 : ρ (.tmp 44) = undef := (hdep ⟨12, .data⟩ (by simp) rfl).1 44 rfl
                  have yg : y 3 = some false := (hdep ⟨3, .guard⟩ (by simp) rfl).2 35 rfl
                  have ocn : ∀ v, ρ (.const v) = v := fun v => hout (.const v) rfl
                  have ofn : ∀ f, ρ (.func f) = .func (.func f) #[] #[] := fun f => hout (.func f) rfl
                  clear hdep hout
                  refine .inr ⟨?_, rfl⟩
                  show (y 3 == some true) = false
                  rw [yg]; rfl
                rcases i with _ | i
                · obtain rfl := Option.some.inj ho
                  have e3 : ρ (.tmp 35) = .bool false := (hdep ⟨3, .data⟩ (by simp) rfl).1 35 rfl
                  have e13 : ρ (.tmp 45) = undef := (hdep ⟨13, .data⟩ (by simp) rfl).1 45 rfl
                  have ocn : ∀ v, ρ (.const v) = v := fun v => hout (.const v) rfl
                  have ofn : ∀ f, ρ (.func f) = .func (.func f) #[] #[] := fun f => hout (.func f) rfl
                  clear hdep hout
                  refine .inl ⟨?_, ?_⟩
                  · rfl
                  show Gives _ _ _ (.bool false) _
                  refine Gives.val ?_
                  go_simp
                rcases i with _ | i
                · obtain rfl := Option.some.inj ho
                  have e14 : ρ (.tmp 46) = .bool false := (hdep ⟨14, .data⟩ (by simp) rfl).1 46 rfl
                  have ocn : ∀ v, ρ (.const v) = v := fun v => hout (.const v) rfl
                  have ofn : ∀ f, ρ (.func f) = .func (.func f) #[] #[] := fun f => hout (.func f) rfl
                  clear hdep hout
                  refine .inl ⟨?_, ?_⟩
                  · rfl
                  show Gives _ _ _ (.bool false) _
                  refine Gives.val ?_
                  go_simp
                cases ho
              case fin =>
                intro x hBx
                have hBf := HZB.out.trans (hBx.mono HZB.out.size)
                go_wp2_with fail
                go_ret
                exact ⟨retBool (by rw [HFr3.out, h5]; simp), hBf⟩
            · have h5n : (n2 != 0) = true := by simp [h5]
              go_wp2_with fail
              refine wp_region_vals (by kernel_rfl) (by kernel_rfl) (by kernel_rfl) (by kernel_rfl) (fun j => [.pointer (some ⟨x0.heap.size, 2, none⟩), .int .i64 n2, .bool true, .bool true, .pointer (some ⟨x0.heap.size, 2, none⟩), .int .i64 n2, .slice (some ⟨g, o, none⟩) pn cap, .pointer (some ⟨x0.heap.size, 0, none⟩), .int .i64 k, .pointer (some ⟨x0.heap.size, 1, none⟩), .int .i64 a, VI, .int .i64 FI, .bool (n2 == FI), .bool (n2 == FI), .bool (n2 == FI)].getD j undef) z (Below.drew (Below.refl _ _)) ?step ⟨#[.slice (some ⟨g, o, none⟩) pn cap, .agg #[.int .i64 k, .int .i64 a, .int .i64 n2], undef, .pointer (some ⟨x0.heap.size, 0, none⟩), .bool (n2 == FI), .pointer (some ⟨x0.heap.size, 0, none⟩), .int .i64 k, .bool false, .bool false, .pointer (some ⟨x0.heap.size, 0, none⟩), .int .i64 k, .slice (some ⟨g, o, none⟩) pn cap, .int .i64 pn, .bool false, .bool false, .bool false, .pointer (some ⟨x0.heap.size, 1, none⟩), .int .i64 a, .bool false, .bool false, .bool false, .pointer (some ⟨x0.heap.size, 1, none⟩), .int .i64 a, .slice (some ⟨g, o, none⟩) pn cap, .pointer (some ⟨x0.heap.size, 0, none⟩), .int .i64 k, .pointer (some ⟨g, o + k, none⟩), .pointer (some ⟨g, o + k, none⟩), .slice pk cl ck, .int .i64 cl, .bool false, .bool false, .pointer (some ⟨x0.heap.size, 2, none⟩), .int .i64 n2, .bool true, .bool true, .pointer (some ⟨x0.heap.size, 2, none⟩), .int .i64 n2, .slice (some ⟨g, o, none⟩) pn cap, .pointer (some ⟨x0.heap.size, 0, none⟩), .int .i64 k, .pointer (some ⟨x0.heap.size, 1, none⟩), .int .i64 a, VI, .int .i64 FI, .bool (n2 == FI), .bool (n2 == FI)], []⟩ (by kernel_rfl) ?fin
              case step =>
                intro i o ho ρ y x hBx hdep hout
                rcases i with _ | i
                · obtain rfl := Option.some.inj ho
                  have o3 : ρ (.tmp 3) = .pointer (some ⟨x0.heap.size, 0, none⟩) := hout (.tmp 3) rfl
                  have ocn : ∀ v, ρ (.const v) = v := fun v => hout (.const v) rfl
                  have ofn : ∀ f, ρ (.func f) = .func (.func f) #[] #[] := fun f => hout (.func f) rfl
                  clear hdep hout
                  refine .inl ⟨?_, ?_⟩
                  · rfl
                  show Gives _ _ _ (.pointer (some ⟨x0.heap.size, 2, none⟩)) _
                  refine Gives.val ?_
                  go_simp
                rcases i with _ | i
                · obtain rfl := Option.some.inj ho
                  have e0 : ρ (.tmp 32) = .pointer (some ⟨x0.heap.size, 2, none⟩) := (hdep ⟨0, .data⟩ (by simp) rfl).1 32 rfl
                  have ocn : ∀ v, ρ (.const v) = v := fun v => hout (.const v) rfl
                  have ofn : ∀ f, ρ (.func f) = .func (.func f) #[] #[] := fun f => hout (.func f) rfl
                  clear hdep hout
                  refine .inl ⟨?_, ?_⟩
                  · rfl
                  have kb := K0.out.later hBx
                  have c0 := kb.c 0 _ rfl
                  have c1 := kb.c 1 _ rfl
                  have c2 := kb.c 2 _ rfl
                  have cl0 := kb.lt
                  show Gives _ _ _ (.int .i64 n2) _
                  refine Gives.val ?_
                  go_simp
                rcases i with _ | i
                · obtain rfl := Option.some.inj ho
                  have e1 : ρ (.tmp 33) = .int .i64 n2 := (hdep ⟨1, .data⟩ (by simp) rfl).1 33 rfl
                  have ocn : ∀ v, ρ (.const v) = v := fun v => hout (.const v) rfl
                  have ofn : ∀ f, ρ (.func f) = .func (.func f) #[] #[] := fun f => hout (.func f) rfl
                  clear hdep hout
                  refine .inl ⟨?_, ?_⟩
                  · rfl
                  show Gives _ _ _ (.bool true) _
                  refine Gives.val ?_
                  go_simp
                rcases i with _ | i
                · obtain rfl := Option.some.inj ho
                  have e2 : ρ (.tmp 34) = .bool true := (hdep ⟨2, .data⟩ (by simp) rfl).1 34 rfl
                  have ocn : ∀ v, ρ (.const v) = v := fun v => hout (.const v) rfl
                  have ofn : ∀ f, ρ (.func f) = .func (.func f) #[] #[] := fun f => hout (.func f) rfl
                  clear hdep hout
                  refine .inl ⟨?_, ?_⟩
                  · rfl
                  show Gives _ _ _ (.bool true) _
                  refine Gives.val ?_
                  go_simp
                rcases i with _ | i
                · obtain rfl := Option.some.inj ho
                  have o3 : ρ (.tmp 3) = .pointer (some ⟨x0.heap.size, 0, none⟩) := hout (.tmp 3) rfl
                  have yg : y 3 = some true := (hdep ⟨3, .guard⟩ (by simp) rfl).2 35 rfl
                  have ocn : ∀ v, ρ (.const v) = v := fun v => hout (.const v) rfl
                  have ofn : ∀ f, ρ (.func f) = .func (.func f) #[] #[] := fun f => hout (.func f) rfl
                  clear hdep hout
                  refine .inl ⟨?_, ?_⟩
                  · show (y 3 == some true) = true
                    rw [yg]; rfl
                  show Gives _ _ _ (.pointer (some ⟨x0.heap.size, 2, none⟩)) _
                  refine Gives.val ?_
                  go_simp
                rcases i with _ | i
                · obtain rfl := Option.some.inj ho
                  have e4 : ρ (.tmp 36) = .pointer (some ⟨x0.heap.size, 2, none⟩) := (hdep ⟨4, .data⟩ (by simp) rfl).1 36 rfl
                  have yg : y 3 = some true := (hdep ⟨3, .guard⟩ (by simp) rfl).2 35 rfl
                  have ocn : ∀ v, ρ (.const v) = v := fun v => hout (.const v) rfl
                  have ofn : ∀ f, ρ (.func f) = .func (.func f) #[] #[] := fun f => hout (.func f) rfl
                  clear hdep hout
                  refine .inl ⟨?_, ?_⟩
                  · show (y 3 == some true) = true
                    rw [yg]; rfl
                  have kb := K0.out.later hBx
                  have c0 := kb.c 0 _ rfl
                  have c1 := kb.c 1 _ rfl
                  have c2 := kb.c 2 _ rfl
                  have cl0 := kb.lt
                  show Gives _ _ _ (.int .i64 n2) _
                  refine Gives.val ?_
                  go_simp
                rcases i with _ | i
                · obtain rfl := Option.some.inj ho
                  have o0 : ρ (.tmp 0) = .slice (some ⟨g, o, none⟩) pn cap := hout (.tmp 0) rfl
                  have yg : y 3 = some true := (hdep ⟨3, .guard⟩ (by simp) rfl).2 35 rfl
                  have ocn : ∀ v, ρ (.const v) = v := fun v => hout (.const v) rfl
                  have ofn : ∀ f, ρ (.func f) = .func (.func f) #[] #[] := fun f => hout (.func f) rfl
                  clear hdep hout
                  refine .inl ⟨?_, ?_⟩
                  · show (y 3 == some true) = true
                    rw [yg]; rfl
                  show Gives _ _ _ (.slice (some ⟨g, o, none⟩) pn cap) _
                  refine Gives.val ?_
                  go_simp
                rcases i with _ | i
                · obtain rfl := Option.some.inj ho
                  have o3 : ρ (.tmp 3) = .pointer (some ⟨x0.heap.size, 0, none⟩) := hout (.tmp 3) rfl
                  have yg : y 3 = some true := (hdep ⟨3, .guard⟩ (by simp) rfl).2 35 rfl
                  have ocn : ∀ v, ρ (.const v) = v := fun v => hout (.const v) rfl
                  have ofn : ∀ f, ρ (.func f) = .func (.func f) #[] #[] := fun f => hout (.func f) rfl
                  clear hdep hout
                  refine .inl ⟨?_, ?_⟩
                  · show (y 3 == some true) = true
                    rw [yg]; rfl
                  show Gives _ _ _ (.pointer (some ⟨x0.heap.size, 0, none⟩)) _
                  refine Gives.val ?_
                  go_simp
                rcases i with _ | i
                · obtain rfl := Option.some.inj ho
                  have e7 : ρ (.tmp 39) = .pointer (some ⟨x0.heap.size, 0, none⟩) := (hdep ⟨7, .data⟩ (by simp) rfl).1 39 rfl
                  have yg : y 3 = some true := (hdep ⟨3, .guard⟩ (by simp) rfl).2 35 rfl
                  have ocn : ∀ v, ρ (.const v) = v := fun v => hout (.const v) rfl
                  have ofn : ∀ f, ρ (.func f) = .func (.func f) #[] #[] := fun f => hout (.func f) rfl
                  clear hdep hout
                  refine .inl ⟨?_, ?_⟩
                  · show (y 3 == some true) = true
                    rw [yg]; rfl
                  have kb := K0.out.later hBx
                  have c0 := kb.c 0 _ rfl
                  have c1 := kb.c 1 _ rfl
                  have c2 := kb.c 2 _ rfl
                  have cl0 := kb.lt
                  show Gives _ _ _ (.int .i64 k) _
                  refine Gives.val ?_
                  go_simp
                rcases i with _ | i
                · obtain rfl := Option.some.inj ho
                  have o3 : ρ (.tmp 3) = .pointer (some ⟨x0.heap.size, 0, none⟩) := hout (.tmp 3) rfl
                  have yg : y 3 = some true := (hdep ⟨3, .guard⟩ (by simp) rfl).2 35 rfl
                  have ocn : ∀ v, ρ (.const v) = v := fun v => hout (.const v) rfl
                  have ofn : ∀ f, ρ (.func f) = .func (.func f) #[] #[] := fun f => hout (.func f) rfl
                  clear hdep hout
                  refine .inl ⟨?_, ?_⟩
                  · show (y 3 == some true) = true
                    rw [yg]; rfl
                  show Gives _ _ _ (.pointer (some ⟨x0.heap.size, 1, none⟩)) _
                  refine Gives.val ?_
                  go_simp
                rcases i with _ | i
                · obtain rfl := Option.some.inj ho
                  have e9 : ρ (.tmp 41) = .pointer (some ⟨x0.heap.size, 1, none⟩) := (hdep ⟨9, .data⟩ (by simp) rfl).1 41 rfl
                  have yg : y 3 = some true := (hdep ⟨3, .guard⟩ (by simp) rfl).2 35 rfl
                  have ocn : ∀ v, ρ (.const v) = v := fun v => hout (.const v) rfl
                  have ofn : ∀ f, ρ (.func f) = .func (.func f) #[] #[] := fun f => hout (.func f) rfl
                  clear hdep hout
                  refine .inl ⟨?_, ?_⟩
                  · show (y 3 == some true) = true
                    rw [yg]; rfl
                  have kb := K0.out.later hBx
                  have c0 := kb.c 0 _ rfl
                  have c1 := kb.c 1 _ rfl
                  have c2 := kb.c 2 _ rfl
                  have cl0 := kb.lt
                  show Gives _ _ _ (.int .i64 a) _
                  refine Gives.val ?_
                  go_simp
                rcases i with _ | i
                · obtain rfl := Option.some.inj ho
                  have e6 : ρ (.tmp 38) = .slice (some ⟨g, o, none⟩) pn cap := (hdep ⟨6, .data⟩ (by simp) rfl).1 38 rfl
                  have e8 : ρ (.tmp 40) = .int .i64 k := (hdep ⟨8, .data⟩ (by simp) rfl).1 40 rfl
                  have e10 : ρ (.tmp 42) = .int .i64 a := (hdep ⟨10, .data⟩ (by simp) rfl).1 42 rfl
                  have yg : y 3 = some true := (hdep ⟨3, .guard⟩ (by simp) rfl).2 35 rfl
                  have ocn : ∀ v, ρ (.const v) = v := fun v => hout (.const v) rfl
                  have ofn : ∀ f, ρ (.func f) = .func (.func f) #[] #[] := fun f => hout (.func f) rfl
                  clear hdep hout
                  refine .inl ⟨?_, ?_⟩
                  · show (y 3 == some true) = true
                    rw [yg]; rfl
                  show Gives _ _ _ (VI) _
                  refine Gives.call (HIA.out x (HZB.out.trans (hBx.mono HZB.out.size))) ?_
                  go_simp
                rcases i with _ | i
                · obtain rfl := Option.some.inj ho
                  have e11 : ρ (.tmp 43) = VI := (hdep ⟨11, .data⟩ (by simp) rfl).1 43 rfl
                  have yg : y 3 = some true := (hdep ⟨3, .guard⟩ (by simp) rfl).2 35 rfl
                  have ocn : ∀ v, ρ (.const v) = v := fun v => hout (.const v) rfl
                  have ofn : ∀ f, ρ (.func f) = .func (.func f) #[] #[] := fun f => hout (.func f) rfl
                  clear hdep hout
                  refine .inl ⟨?_, ?_⟩
                  · show (y 3 == some true) = true
                    rw [yg]; rfl
                  show Gives _ _ _ (.int .i64 FI) _
                  refine Gives.call (HFO.out x) ?_
                  go_simp
                rcases i with _ | i
                · obtain rfl := Option.some.inj ho
                  have e5 : ρ (.tmp 37) = .int .i64 n2 := (hdep ⟨5, .data⟩ (by simp) rfl).1 37 rfl
                  have e12 : ρ (.tmp 44) = .int .i64 FI := (hdep ⟨12, .data⟩ (by simp) rfl).1 44 rfl
                  have yg : y 3 = some true := (hdep ⟨3, .guard⟩ (by simp) rfl).2 35 rfl
                  have ocn : ∀ v, ρ (.const v) = v := fun v => hout (.const v) rfl
                  have ofn : ∀ f, ρ (.func f) = .func (.func f) #[] #[] := fun f => hout (.func f) rfl
                  clear hdep hout
                  refine .inl ⟨?_, ?_⟩
                  · show (y 3 == some true) = true
                    rw [yg]; rfl
                  show Gives _ _ _ (.bool (n2 == FI)) _
                  refine Gives.val ?_
                  go_simp
                rcases i with _ | i
                · obtain rfl := Option.some.inj ho
                  have e3 : ρ (.tmp 35) = .bool true := (hdep ⟨3, .data⟩ (by simp) rfl).1 35 rfl
                  have e13 : ρ (.tmp 45) = .bool (n2 == FI) := (hdep ⟨13, .data⟩ (by simp) rfl).1 45 rfl
                  have ocn : ∀ v, ρ (.const v) = v := fun v => hout (.const v) rfl
                  have ofn : ∀ f, ρ (.func f) = .func (.func f) #[] #[] := fun f => hout (.func f) rfl
                  clear hdep hout
                  refine .inl ⟨?_, ?_⟩
                  · rfl
                  show Gives _ _ _ (.bool (n2 == FI)) _
                  refine Gives.val ?_
                  go_simp
                rcases i with _ | i
                · obtain rfl := Option.some.inj ho
                  have e14 : ρ (.tmp 46) = .bool (n2 == FI) := (hdep ⟨14, .data⟩ (by simp) rfl).1 46 rfl
                  have ocn : ∀ v, ρ (.const v) = v := fun v => hout (.const v) rfl
                  have ofn : ∀ f, ρ (.func f) = .func (.func f) #[] #[] := fun f => hout (.func f) rfl
                  clear hdep hout
                  refine .inl ⟨?_, ?_⟩
                  · rfl
                  show Gives _ _ _ (.bool (n2 == FI)) _
                  refine Gives.val ?_
                  go_simp
                cases ho
              case fin =>
                intro x hBx
                have hBf := HZB.out.trans (hBx.mono HZB.out.size)
                go_wp2_with fail
                go_ret
                exact ⟨retBool (by rw [HFr3.out]; exact eqb n2 FI h5), hBf⟩

end Go.Proofs.Ytbjegekfghihkaa
