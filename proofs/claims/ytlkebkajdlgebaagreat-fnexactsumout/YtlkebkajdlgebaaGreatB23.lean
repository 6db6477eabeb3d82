import Derived.Test.YtlkebkajdlgebaaGreatB17
import Derived.Test.YtlkebkajdlgebaaGreatB2
import Derived.Test.YtlkebkajdlgebaaGreatB14
/-
  Whether a site is ok: the contract of the model's l3SiteOk.
-/
namespace Go.Proofs.YtlkebkajdlgebaaGreat
open Go.RowKit
set_option linter.unusedVariables false
set_option linter.unusedSimpArgs false

theorem eqb2 (a b : Int) (h : ¬ a = 0) : (b == a) = (!decide (a = 0) && decide (b = a)) := by
  by_cases h6 : b = a
  · subst h6; simp [h]
  · simp [h, h6]
theorem l6In_b (n lo hi : Int) (v : Bool) (h : inI n lo hi = v) (w : World) : Calls Tryz.prog 48 #[.int .i64 n, .int .i64 lo, .int .i64 hi] w fun e w' => e = .returned (.bool v) ∧ Below w.heap.size w w' := by
  subst h
  refine (l6In_e n lo hi w).mono ?_
  rintro e w' ⟨rfl, rfl⟩
  exact ⟨rfl, Below.refl _ _⟩

set_option maxRecDepth 100000 in
set_option maxHeartbeats 8000000 in
theorem l3SiteOk_any (x0 : World) (B : Nat) (v : Value) (P : List (List I4)) (h : ProgAt x0 B v P) (hok : progOkF P = true) (s : Int × Int × Int) :
    Calls Tryz.prog 50 #[v, .agg #[.int .i64 s.1, .int .i64 s.2.1, .int .i64 s.2.2]] x0 fun e y => e = .returned (.bool (siteOkF P s)) ∧ Below x0.heap.size x0 y := by
  obtain ⟨n0, n1, n2⟩ := s
  obtain ⟨p, cap, rfl, _⟩ := h.shape
  have H : Hid (ProgAt x0 B (.slice p P.length cap) P) := h
  have hl := progOkF_len hok
  have HOK : Hid (progOkF P = true) := hok
  have hn4 : (P.length : Int) ≤ 4 := by omega
  have hn1 : 1 ≤ (P.length : Int) := by omega
  have HFr : Hid (siteOkF P (n0, n1, n2) = (inI n0 0 (P.length - 1) && inI n1 0 ((P.getD n0.toNat []).length - 1) && !decide (n2 = 0) && decide (faultF ((P.getD n0.toNat []).getD n1.toNat i0) = n2))) := rfl
  generalize hFF : siteOkF P (n0, n1, n2) = FF at HFr
  clear hFF h hok hl
  dsimp only
  have HAl : Hid (Below x0.heap.size x0 (x0.alloc (.cells #[.int .i64 n0, .int .i64 n1, .int .i64 n2] 94))) := (Below.refl _ _).alloc (Nat.le_refl _) _
  have K00 : Hid (BxN (x0.alloc (.cells #[.int .i64 n0, .int .i64 n1, .int .i64 n2] 94)) x0.heap.size [.int .i64 n0, .int .i64 n1, .int .i64 n2]) := BxN.new x0 [_, _, _] _
  cases g1 : inI n0 0 (P.length - 1)
  · generalize P.length = pn at *
    go_enter Tryz.func50, Tryz.ntmps50
    go_wp2_with fail
    generalize x0.alloc (.cells #[.int .i64 n0, .int .i64 n1, .int .i64 n2] 94) = X at HAl K00 ⊢
    refine wp_region_vals (by kernel_rfl) (by kernel_rfl) (by kernel_rfl) (by kernel_rfl) (fun j => [.pointer (some ⟨x0.heap.size, 0, none⟩), .int .i64 n0, .slice p pn cap, .int .i64 pn, .int .i64 ((pn : Int) - 1), .bool false, .bool false, undef, undef, undef, undef, undef, undef, undef, undef, undef, undef, undef, .bool false, .bool false, undef, undef, undef, .bool false, .bool false, undef, undef, undef, undef, undef, undef, undef, undef, undef, undef, undef, undef, undef, undef, .bool false, .bool false].getD j undef) X (Below.drew (Below.refl _ _)) ?step ⟨#[.slice p pn cap, .agg #[.int .i64 n0, .int .i64 n1, .int .i64 n2], undef, .pointer (some ⟨x0.heap.size, 0, none⟩), .bool false, .pointer (some ⟨x0.heap.size, 0, none⟩), .int .i64 n0, .slice p pn cap, .int .i64 pn, .int .i64 ((pn : Int) - 1), .bool false, .bool false, undef, undef, undef, undef, undef, undef, undef, undef, undef, undef, undef, .bool false, .bool false, undef, undef, undef, .bool false, .bool false, undef, undef, undef, undef, undef, undef, undef, undef, undef, undef, undef, undef, undef, undef, .bool false], []⟩ (by kernel_rfl) ?fin
    case step =>
      intro i o ho ρ y x hBx hdep hout
      rcases i with _ | i
      · obtain rfl := Option.some.inj ho
        have o3 : ρ (.tmp 3) = .pointer (some ⟨x0.heap.size, 0, none⟩) := hout (.tmp 3) rfl
        clear hdep hout
        refine .inl ⟨rfl, (Gives.val ?_ : Gives _ _ _ (.pointer (some ⟨x0.heap.size, 0, none⟩)) _)⟩
        go_simp
      rcases i with _ | i
      · obtain rfl := Option.some.inj ho
        have e0 : ρ (.tmp 5) = .pointer (some ⟨x0.heap.size, 0, none⟩) := (hdep ⟨0, .data⟩ (by simp) rfl).1 5 rfl
        clear hdep hout
        have kb := K00.out.later hBx
        have c0 := kb.c 0 _ rfl
        have c1 := kb.c 1 _ rfl
        have c2 := kb.c 2 _ rfl
        have cl0 := kb.lt
        refine .inl ⟨rfl, (Gives.val ?_ : Gives _ _ _ (.int .i64 n0) _)⟩
        go_simp
      rcases i with _ | i
      · obtain rfl := Option.some.inj ho
        have o0 : ρ (.tmp 0) = .slice p pn cap := hout (.tmp 0) rfl
        clear hdep hout
        refine .inl ⟨rfl, (Gives.val ?_ : Gives _ _ _ (.slice p pn cap) _)⟩
        go_simp
      rcases i with _ | i
      · obtain rfl := Option.some.inj ho
        have e2 : ρ (.tmp 7) = .slice p pn cap := (hdep ⟨2, .data⟩ (by simp) rfl).1 7 rfl
        clear hdep hout
        refine .inl ⟨rfl, (Gives.val ?_ : Gives _ _ _ (.int .i64 pn) _)⟩
        go_simp
      rcases i with _ | i
      · obtain rfl := Option.some.inj ho
        have e3 : ρ (.tmp 8) = .int .i64 pn := (hdep ⟨3, .data⟩ (by simp) rfl).1 8 rfl
        have ocn : ∀ v, ρ (.const v) = v := fun v => hout (.const v) rfl
        clear hdep hout
        refine .inl ⟨rfl, (Gives.val ?_ : Gives _ _ _ (.int .i64 ((pn : Int) - 1)) _)⟩
        (go_simp; exact IntWalk.i64_in _ (by omega))
      rcases i with _ | i
      · obtain rfl := Option.some.inj ho
        have e1 : ρ (.tmp 6) = .int .i64 n0 := (hdep ⟨1, .data⟩ (by simp) rfl).1 6 rfl
        have e4 : ρ (.tmp 9) = .int .i64 ((pn : Int) - 1) := (hdep ⟨4, .data⟩ (by simp) rfl).1 9 rfl
        have ocn : ∀ v, ρ (.const v) = v := fun v => hout (.const v) rfl
        have ofn : ∀ f, ρ (.func f) = .func (.func f) #[] #[] := fun f => hout (.func f) rfl
        clear hdep hout
        refine .inl ⟨?_, ?_⟩
        · rfl
        show Gives _ _ _ (.bool false) _
        refine Gives.call (l6In_b n0 0 ((pn : Int) - 1) false g1 x) ?_
        go_simp
      rcases i with _ | i
      · obtain rfl := Option.some.inj ho
        have e5 : ρ (.tmp 10) = .bool false := (hdep ⟨5, .data⟩ (by simp) rfl).1 10 rfl
        clear hdep hout
        refine .inl ⟨rfl, (Gives.val ?_ : Gives _ _ _ (.bool false) _)⟩
        go_simp
      rcases i with _ | i
      · obtain rfl := Option.some.inj ho
        have yg : y 6 = some false := (hdep ⟨6, .guard⟩ (by simp) rfl).2 11 rfl
        exact .inr ⟨by show (y 6 == some true) = false; rw [yg]; rfl, rfl⟩
      rcases i with _ | i
      · obtain rfl := Option.some.inj ho
        have yg : y 6 = some false := (hdep ⟨6, .guard⟩ (by simp) rfl).2 11 rfl
        exact .inr ⟨by show (y 6 == some true) = false; rw [yg]; rfl, rfl⟩
      rcases i with _ | i
      · obtain rfl := Option.some.inj ho
        have yg : y 6 = some false := (hdep ⟨6, .guard⟩ (by simp) rfl).2 11 rfl
        exact .inr ⟨by show (y 6 == some true) = false; rw [yg]; rfl, rfl⟩
      rcases i with _ | i
      · obtain rfl := Option.some.inj ho
        have yg : y 6 = some false := (hdep ⟨6, .guard⟩ (by simp) rfl).2 11 rfl
        exact .inr ⟨by show (y 6 == some true) = false; rw [yg]; rfl, rfl⟩
      rcases i with _ | i
      · obtain rfl := Option.some.inj ho
        have yg : y 6 = some false := (hdep ⟨6, .guard⟩ (by simp) rfl).2 11 rfl
        exact .inr ⟨by show (y 6 == some true) = false; rw [yg]; rfl, rfl⟩
      rcases i with _ | i
      · obtain rfl := Option.some.inj ho
        have yg : y 6 = some false := (hdep ⟨6, .guard⟩ (by simp) rfl).2 11 rfl
        exact .inr ⟨by show (y 6 == some true) = false; rw [yg]; rfl, rfl⟩
      rcases i with _ | i
      · obtain rfl := Option.some.inj ho
        have yg : y 6 = some false := (hdep ⟨6, .guard⟩ (by simp) rfl).2 11 rfl
        exact .inr ⟨by show (y 6 == some true) = false; rw [yg]; rfl, rfl⟩
      rcases i with _ | i
      · obtain rfl := Option.some.inj ho
        have yg : y 6 = some false := (hdep ⟨6, .guard⟩ (by simp) rfl).2 11 rfl
        exact .inr ⟨by show (y 6 == some true) = false; rw [yg]; rfl, rfl⟩
      rcases i with _ | i
      · obtain rfl := Option.some.inj ho
        have yg : y 6 = some false := (hdep ⟨6, .guard⟩ (by simp) rfl).2 11 rfl
        exact .inr ⟨by show (y 6 == some true) = false; rw [yg]; rfl, rfl⟩
      rcases i with _ | i
      · obtain rfl := Option.some.inj ho
        have yg : y 6 = some false := (hdep ⟨6, .guard⟩ (by simp) rfl).2 11 rfl
        exact .inr ⟨by show (y 6 == some true) = false; rw [yg]; rfl, rfl⟩
      rcases i with _ | i
      · obtain rfl := Option.some.inj ho
        have yg : y 6 = some false := (hdep ⟨6, .guard⟩ (by simp) rfl).2 11 rfl
        exact .inr ⟨by show (y 6 == some true) = false; rw [yg]; rfl, rfl⟩
      rcases i with _ | i
      · obtain rfl := Option.some.inj ho
        have e6 : ρ (.tmp 11) = .bool false := (hdep ⟨6, .data⟩ (by simp) rfl).1 11 rfl
        have e17 : ρ (.tmp 22) = undef := (hdep ⟨17, .data⟩ (by simp) rfl).1 22 rfl
        have ocn : ∀ v, ρ (.const v) = v := fun v => hout (.const v) rfl
        clear hdep hout
        refine .inl ⟨rfl, (Gives.val ?_ : Gives _ _ _ (.bool false) _)⟩
        go_simp
      rcases i with _ | i
      · obtain rfl := Option.some.inj ho
        have e18 : ρ (.tmp 23) = .bool false := (hdep ⟨18, .data⟩ (by simp) rfl).1 23 rfl
        clear hdep hout
        refine .inl ⟨rfl, (Gives.val ?_ : Gives _ _ _ (.bool false) _)⟩
        go_simp
      rcases i with _ | i
      · obtain rfl := Option.some.inj ho
        have yg : y 19 = some false := (hdep ⟨19, .guard⟩ (by simp) rfl).2 24 rfl
        exact .inr ⟨by show (y 19 == some true) = false; rw [yg]; rfl, rfl⟩
      rcases i with _ | i
      · obtain rfl := Option.some.inj ho
        have yg : y 19 = some false := (hdep ⟨19, .guard⟩ (by simp) rfl).2 24 rfl
        exact .inr ⟨by show (y 19 == some true) = false; rw [yg]; rfl, rfl⟩
      rcases i with _ | i
      · obtain rfl := Option.some.inj ho
        have yg : y 19 = some false := (hdep ⟨19, .guard⟩ (by simp) rfl).2 24 rfl
        exact .inr ⟨by show (y 19 == some true) = false; rw [yg]; rfl, rfl⟩
      rcases i with _ | i
      · obtain rfl := Option.some.inj ho
        have e19 : ρ (.tmp 24) = .bool false := (hdep ⟨19, .data⟩ (by simp) rfl).1 24 rfl
        have e22 : ρ (.tmp 27) = undef := (hdep ⟨22, .data⟩ (by simp) rfl).1 27 rfl
        have ocn : ∀ v, ρ (.const v) = v := fun v => hout (.const v) rfl
        clear hdep hout
        refine .inl ⟨rfl, (Gives.val ?_ : Gives _ _ _ (.bool false) _)⟩
        go_simp
      rcases i with _ | i
      · obtain rfl := Option.some.inj ho
        have e23 : ρ (.tmp 28) = .bool false := (hdep ⟨23, .data⟩ (by simp) rfl).1 28 rfl
        clear hdep hout
        refine .inl ⟨rfl, (Gives.val ?_ : Gives _ _ _ (.bool false) _)⟩
        go_simp
      rcases i with _ | i
      · obtain rfl := Option.some.inj ho
        have yg : y 24 = some false := (hdep ⟨24, .guard⟩ (by simp) rfl).2 29 rfl
        exact .inr ⟨by show (y 24 == some true) = false; rw [yg]; rfl, rfl⟩
      rcases i with _ | i
      · obtain rfl := Option.some.inj ho
        have yg : y 24 = some false := (hdep ⟨24, .guard⟩ (by simp) rfl).2 29 rfl
        exact .inr ⟨by show (y 24 == some true) = false; rw [yg]; rfl, rfl⟩
      rcases i with _ | i
      · obtain rfl := Option.some.inj ho
        have yg : y 24 = some false := (hdep ⟨24, .guard⟩ (by simp) rfl).2 29 rfl
        exact .inr ⟨by show (y 24 == some true) = false; rw [yg]; rfl, rfl⟩
      rcases i with _ | i
      · obtain rfl := Option.some.inj ho
        have yg : y 24 = some false := (hdep ⟨24, .guard⟩ (by simp) rfl).2 29 rfl
        exact .inr ⟨by show (y 24 == some true) = false; rw [yg]; rfl, rfl⟩
      rcases i with _ | i
      · obtain rfl := Option.some.inj ho
        have yg : y 24 = some false := (hdep ⟨24, .guard⟩ (by simp) rfl).2 29 rfl
        exact .inr ⟨by show (y 24 == some true) = false; rw [yg]; rfl, rfl⟩
      rcases i with _ | i
      · obtain rfl := Option.some.inj ho
        have yg : y 24 = some false := (hdep ⟨24, .guard⟩ (by simp) rfl).2 29 rfl
        exact .inr ⟨by show (y 24 == some true) = false; rw [yg]; rfl, rfl⟩
      rcases i with _ | i
      · obtain rfl := Option.some.inj ho
        have yg : y 24 = some false := (hdep ⟨24, .guard⟩ (by simp) rfl).2 29 rfl
        exact .inr ⟨by show (y 24 == some true) = false; rw [yg]; rfl, rfl⟩
      rcases i with _ | i
      · obtain rfl := Option.some.inj ho
        have yg : y 24 = some false := (hdep ⟨24, .guard⟩ (by simp) rfl).2 29 rfl
        exact .inr ⟨by show (y 24 == some true) = false; rw [yg]; rfl, rfl⟩
      rcases i with _ | i
      · obtain rfl := Option.some.inj ho
        have yg : y 24 = some false := (hdep ⟨24, .guard⟩ (by simp) rfl).2 29 rfl
        exact .inr ⟨by show (y 24 == some true) = false; rw [yg]; rfl, rfl⟩
      rcases i with _ | i
      · obtain rfl := Option.some.inj ho
        have yg : y 24 = some false := (hdep ⟨24, .guard⟩ (by simp) rfl).2 29 rfl
        exact .inr ⟨by show (y 24 == some true) = false; rw [yg]; rfl, rfl⟩
      rcases i with _ | i
      · obtain rfl := Option.some.inj ho
        have yg : y 24 = some false := (hdep ⟨24, .guard⟩ (by simp) rfl).2 29 rfl
        exact .inr ⟨by show (y 24 == some true) = false; rw [yg]; rfl, rfl⟩
      rcases i with _ | i
      · obtain rfl := Option.some.inj ho
        have yg : y 24 = some false := (hdep ⟨24, .guard⟩ (by simp) rfl).2 29 rfl
        exact .inr ⟨by show (y 24 == some true) = false; rw [yg]; rfl, rfl⟩
      rcases i with _ | i
      · obtain rfl := Option.some.inj ho
        have yg : y 24 = some false := (hdep ⟨24, .guard⟩ (by simp) rfl).2 29 rfl
        exact .inr ⟨by show (y 24 == some true) = false; rw [yg]; rfl, rfl⟩
      rcases i with _ | i
      · obtain rfl := Option.some.inj ho
        have yg : y 24 = some false := (hdep ⟨24, .guard⟩ (by simp) rfl).2 29 rfl
        exact .inr ⟨by show (y 24 == some true) = false; rw [yg]; rfl, rfl⟩
      rcases i with _ | i
      · obtain rfl := Option.some.inj ho
        have e24 : ρ (.tmp 29) = .bool false := (hdep ⟨24, .data⟩ (by simp) rfl).1 29 rfl
        have e38 : ρ (.tmp 43) = undef := (hdep ⟨38, .data⟩ (by simp) rfl).1 43 rfl
        have ocn : ∀ v, ρ (.const v) = v := fun v => hout (.const v) rfl
        clear hdep hout
        refine .inl ⟨rfl, (Gives.val ?_ : Gives _ _ _ (.bool false) _)⟩
        go_simp
      rcases i with _ | i
      · obtain rfl := Option.some.inj ho
        have e39 : ρ (.tmp 44) = .bool false := (hdep ⟨39, .data⟩ (by simp) rfl).1 44 rfl
        clear hdep hout
        refine .inl ⟨rfl, (Gives.val ?_ : Gives _ _ _ (.bool false) _)⟩
        go_simp
      cases ho
    case fin =>
      intro x hBx
      have hBf := HAl.out.trans (hBx.mono HAl.out.size)
      go_wp2_with fail
      go_ret
      exact ⟨retBool (by rw [HFr.out, g1]; rfl), hBf⟩
  · obtain ⟨k, rfl⟩ : ∃ k : Nat, n0 = k := ⟨n0.toNat, by simp only [inI, Bool.and_eq_true, decide_eq_true_eq] at g1; omega⟩
    have hk' : k < P.length := by simp only [inI, Bool.and_eq_true, decide_eq_true_eq] at g1; omega
    have hcode := progOkF_code HOK.out hk'
    obtain ⟨g, o, uu, rfl, hg, hu, hc⟩ := H.out.code hk'
    obtain ⟨pk, ck, rfl, _⟩ := hc.shape
    have HFr2 : Hid (FF = (inI n1 0 ((P.getD k []).length - 1) && !decide (n2 = 0) && decide (faultF ((P.getD k []).getD n1.toNat i0) = n2))) := by
      show FF = _
      rw [HFr.out, g1]; simp
    have HC : Hid (CodeAt x0 B (.slice pk (P.getD k []).length ck) (P.getD k [])) := hc
    have HCO : Hid ((P.getD k []).length ≤ 8 ∧ ∀ j, j < (P.getD k []).length → insOkF ((P.getD k []).getD j i0) (P.getD k []).length P.length = true) := hcode
    have hki : (k : Int) < (P.length : Int) := by omega
    have hc8i : ((P.getD k []).length : Int) ≤ 8 := by have := hcode.1; omega
    clear HFr hc hcode
    cases g2 : inI n1 0 ((P.getD k []).length - 1)
    · clear HCO HC
      generalize (P.getD k []).length = cl at *
      generalize P.length = pn at *
      go_enter Tryz.func50, Tryz.ntmps50
      go_wp2_with fail
      generalize x0.alloc (.cells #[.int .i64 k, .int .i64 n1, .int .i64 n2] 94) = X at HAl K00 ⊢
      refine wp_region_vals (by kernel_rfl) (by kernel_rfl) (by kernel_rfl) (by kernel_rfl) (fun j => [.pointer (some ⟨x0.heap.size, 0, none⟩), .int .i64 k, .slice (some ⟨g, o, none⟩) pn cap, .int .i64 pn, .int .i64 ((pn : Int) - 1), .bool true, .bool true, .pointer (some ⟨x0.heap.size, 1, none⟩), .int .i64 n1, .slice (some ⟨g, o, none⟩) pn cap, .pointer (some ⟨x0.heap.size, 0, none⟩), .int .i64 k, .pointer (some ⟨g, o + k, none⟩), .pointer (some ⟨g, o + k, none⟩), .slice pk cl ck, .int .i64 cl, .int .i64 ((cl : Int) - 1), .bool false, .bool false, .bool false, undef, undef, undef, .bool false, .bool false, undef, undef, undef, undef, undef, undef, undef, undef, undef, undef, undef, undef, undef, undef, .bool false, .bool false].getD j undef) X (Below.drew (Below.refl _ _)) ?step ⟨#[.slice (some ⟨g, o, none⟩) pn cap, .agg #[.int .i64 k, .int .i64 n1, .int .i64 n2], undef, .pointer (some ⟨x0.heap.size, 0, none⟩), .bool false, .pointer (some ⟨x0.heap.size, 0, none⟩), .int .i64 k, .slice (some ⟨g, o, none⟩) pn cap, .int .i64 pn, .int .i64 ((pn : Int) - 1), .bool true, .bool true, .pointer (some ⟨x0.heap.size, 1, none⟩), .int .i64 n1, .slice (some ⟨g, o, none⟩) pn cap, .pointer (some ⟨x0.heap.size, 0, none⟩), .int .i64 k, .pointer (some ⟨g, o + k, none⟩), .pointer (some ⟨g, o + k, none⟩), .slice pk cl ck, .int .i64 cl, .int .i64 ((cl : Int) - 1), .bool false, .bool false, .bool false, undef, undef, undef, .bool false, .bool false, undef, undef, undef, undef, undef, undef, undef, undef, undef, undef, undef, undef, undef, undef, .bool false], []⟩ (by kernel_rfl) ?fin
      case step =>
        intro i o ho ρ y x hBx hdep hout
        rcases i with _ | i
        · obtain rfl := Option.some.inj ho
          have o3 : ρ (.tmp 3) = .pointer (some ⟨x0.heap.size, 0, none⟩) := hout (.tmp 3) rfl
          clear hdep hout
          refine .inl ⟨rfl, (Gives.val ?_ : Gives _ _ _ (.pointer (some ⟨x0.heap.size, 0, none⟩)) _)⟩
          go_simp
        rcases i with _ | i
        · obtain rfl := Option.some.inj ho
          have e0 : ρ (.tmp 5) = .pointer (some ⟨x0.heap.size, 0, none⟩) := (hdep ⟨0, .data⟩ (by simp) rfl).1 5 rfl
          clear hdep hout
          have kb := K00.out.later hBx
          have c0 := kb.c 0 _ rfl
          have c1 := kb.c 1 _ rfl
          have c2 := kb.c 2 _ rfl
          have cl0 := kb.lt
          refine .inl ⟨rfl, (Gives.val ?_ : Gives _ _ _ (.int .i64 k) _)⟩
          go_simp
        rcases i with _ | i
        · obtain rfl := Option.some.inj ho
          have o0 : ρ (.tmp 0) = .slice (some ⟨g, o, none⟩) pn cap := hout (.tmp 0) rfl
          clear hdep hout
          refine .inl ⟨rfl, (Gives.val ?_ : Gives _ _ _ (.slice (some ⟨g, o, none⟩) pn cap) _)⟩
          go_simp
        rcases i with _ | i
        · obtain rfl := Option.some.inj ho
          have e2 : ρ (.tmp 7) = .slice (some ⟨g, o, none⟩) pn cap := (hdep ⟨2, .data⟩ (by simp) rfl).1 7 rfl
          clear hdep hout
          refine .inl ⟨rfl, (Gives.val ?_ : Gives _ _ _ (.int .i64 pn) _)⟩
          go_simp
        rcases i with _ | i
        · obtain rfl := Option.some.inj ho
          have e3 : ρ (.tmp 8) = .int .i64 pn := (hdep ⟨3, .data⟩ (by simp) rfl).1 8 rfl
          have ocn : ∀ v, ρ (.const v) = v := fun v => hout (.const v) rfl
          clear hdep hout
          refine .inl ⟨rfl, (Gives.val ?_ : Gives _ _ _ (.int .i64 ((pn : Int) - 1)) _)⟩
          (go_simp; exact IntWalk.i64_in _ (by omega))
        rcases i with _ | i
        · obtain rfl := Option.some.inj ho
          have e1 : ρ (.tmp 6) = .int .i64 k := (hdep ⟨1, .data⟩ (by simp) rfl).1 6 rfl
          have e4 : ρ (.tmp 9) = .int .i64 ((pn : Int) - 1) := (hdep ⟨4, .data⟩ (by simp) rfl).1 9 rfl
          have ocn : ∀ v, ρ (.const v) = v := fun v => hout (.const v) rfl
          have ofn : ∀ f, ρ (.func f) = .func (.func f) #[] #[] := fun f => hout (.func f) rfl
          clear hdep hout
          refine .inl ⟨?_, ?_⟩
          · rfl
          show Gives _ _ _ (.bool true) _
          refine Gives.call (l6In_b k 0 ((pn : Int) - 1) true g1 x) ?_
          go_simp
        rcases i with _ | i
        · obtain rfl := Option.some.inj ho
          have e5 : ρ (.tmp 10) = .bool true := (hdep ⟨5, .data⟩ (by simp) rfl).1 10 rfl
          clear hdep hout
          refine .inl ⟨rfl, (Gives.val ?_ : Gives _ _ _ (.bool true) _)⟩
          go_simp
        rcases i with _ | i
        · obtain rfl := Option.some.inj ho
          have o3 : ρ (.tmp 3) = .pointer (some ⟨x0.heap.size, 0, none⟩) := hout (.tmp 3) rfl
          have yg : y 6 = some true := (hdep ⟨6, .guard⟩ (by simp) rfl).2 11 rfl
          clear hdep hout
          refine .inl ⟨(by show (y 6 == some true) = true; rw [yg]; rfl), (Gives.val ?_ : Gives _ _ _ (.pointer (some ⟨x0.heap.size, 1, none⟩)) _)⟩
          go_simp
        rcases i with _ | i
        · obtain rfl := Option.some.inj ho
          have e7 : ρ (.tmp 12) = .pointer (some ⟨x0.heap.size, 1, none⟩) := (hdep ⟨7, .data⟩ (by simp) rfl).1 12 rfl
          have yg : y 6 = some true := (hdep ⟨6, .guard⟩ (by simp) rfl).2 11 rfl
          clear hdep hout
          have kb := K00.out.later hBx
          have c0 := kb.c 0 _ rfl
          have c1 := kb.c 1 _ rfl
          have c2 := kb.c 2 _ rfl
          have cl0 := kb.lt
          refine .inl ⟨(by show (y 6 == some true) = true; rw [yg]; rfl), (Gives.val ?_ : Gives _ _ _ (.int .i64 n1) _)⟩
          go_simp
        rcases i with _ | i
        · obtain rfl := Option.some.inj ho
          have o0 : ρ (.tmp 0) = .slice (some ⟨g, o, none⟩) pn cap := hout (.tmp 0) rfl
          have yg : y 6 = some true := (hdep ⟨6, .guard⟩ (by simp) rfl).2 11 rfl
          clear hdep hout
          refine .inl ⟨(by show (y 6 == some true) = true; rw [yg]; rfl), (Gives.val ?_ : Gives _ _ _ (.slice (some ⟨g, o, none⟩) pn cap) _)⟩
          go_simp
        rcases i with _ | i
        · obtain rfl := Option.some.inj ho
          have o3 : ρ (.tmp 3) = .pointer (some ⟨x0.heap.size, 0, none⟩) := hout (.tmp 3) rfl
          have yg : y 6 = some true := (hdep ⟨6, .guard⟩ (by simp) rfl).2 11 rfl
          clear hdep hout
          refine .inl ⟨(by show (y 6 == some true) = true; rw [yg]; rfl), (Gives.val ?_ : Gives _ _ _ (.pointer (some ⟨x0.heap.size, 0, none⟩)) _)⟩
          go_simp
        rcases i with _ | i
        · obtain rfl := Option.some.inj ho
          have e10 : ρ (.tmp 15) = .pointer (some ⟨x0.heap.size, 0, none⟩) := (hdep ⟨10, .data⟩ (by simp) rfl).1 15 rfl
          have yg : y 6 = some true := (hdep ⟨6, .guard⟩ (by simp) rfl).2 11 rfl
          clear hdep hout
          have kb := K00.out.later hBx
          have c0 := kb.c 0 _ rfl
          have c1 := kb.c 1 _ rfl
          have c2 := kb.c 2 _ rfl
          have cl0 := kb.lt
          refine .inl ⟨(by show (y 6 == some true) = true; rw [yg]; rfl), (Gives.val ?_ : Gives _ _ _ (.int .i64 k) _)⟩
          go_simp
        rcases i with _ | i
        · obtain rfl := Option.some.inj ho
          have e9 : ρ (.tmp 14) = .slice (some ⟨g, o, none⟩) pn cap := (hdep ⟨9, .data⟩ (by simp) rfl).1 14 rfl
          have e11 : ρ (.tmp 16) = .int .i64 k := (hdep ⟨11, .data⟩ (by simp) rfl).1 16 rfl
          have yg : y 6 = some true := (hdep ⟨6, .guard⟩ (by simp) rfl).2 11 rfl
          clear hdep hout
          refine .inl ⟨(by show (y 6 == some true) = true; rw [yg]; rfl), (Gives.val ?_ : Gives _ _ _ (.pointer (some ⟨g, o + k, none⟩)) _)⟩
          go_simp
        rcases i with _ | i
        · obtain rfl := Option.some.inj ho
          have e12 : ρ (.tmp 17) = .pointer (some ⟨g, o + k, none⟩) := (hdep ⟨12, .data⟩ (by simp) rfl).1 17 rfl
          have yg : y 6 = some true := (hdep ⟨6, .guard⟩ (by simp) rfl).2 11 rfl
          clear hdep hout
          refine .inl ⟨(by show (y 6 == some true) = true; rw [yg]; rfl), (Gives.val ?_ : Gives _ _ _ (.pointer (some ⟨g, o + k, none⟩)) _)⟩
          go_simp
        rcases i with _ | i
        · obtain rfl := Option.some.inj ho
          have e13 : ρ (.tmp 18) = .pointer (some ⟨g, o + k, none⟩) := (hdep ⟨13, .data⟩ (by simp) rfl).1 18 rfl
          have yg : y 6 = some true := (hdep ⟨6, .guard⟩ (by simp) rfl).2 11 rfl
          clear hdep hout
          have hcu := ((HAl.out.trans (hBx.mono HAl.out.size)).cell (p := ⟨g, o + k, none⟩) hg).trans hu
          refine .inl ⟨(by show (y 6 == some true) = true; rw [yg]; rfl), (Gives.val ?_ : Gives _ _ _ (.slice pk cl ck) _)⟩
          go_simp
        rcases i with _ | i
        · obtain rfl := Option.some.inj ho
          have e14 : ρ (.tmp 19) = .slice pk cl ck := (hdep ⟨14, .data⟩ (by simp) rfl).1 19 rfl
          have yg : y 6 = some true := (hdep ⟨6, .guard⟩ (by simp) rfl).2 11 rfl
          clear hdep hout
          refine .inl ⟨(by show (y 6 == some true) = true; rw [yg]; rfl), (Gives.val ?_ : Gives _ _ _ (.int .i64 cl) _)⟩
          go_simp
        rcases i with _ | i
        · obtain rfl := Option.some.inj ho
          have e15 : ρ (.tmp 20) = .int .i64 cl := (hdep ⟨15, .data⟩ (by simp) rfl).1 20 rfl
          have yg : y 6 = some true := (hdep ⟨6, .guard⟩ (by simp) rfl).2 11 rfl
          have ocn : ∀ v, ρ (.const v) = v := fun v => hout (.const v) rfl
          clear hdep hout
          refine .inl ⟨(by show (y 6 == some true) = true; rw [yg]; rfl), (Gives.val ?_ : Gives _ _ _ (.int .i64 ((cl : Int) - 1)) _)⟩
          (go_simp; exact IntWalk.i64_in _ (by omega))
        rcases i with _ | i
        · obtain rfl := Option.some.inj ho
          have e8 : ρ (.tmp 13) = .int .i64 n1 := (hdep ⟨8, .data⟩ (by simp) rfl).1 13 rfl
          have e16 : ρ (.tmp 21) = .int .i64 ((cl : Int) - 1) := (hdep ⟨16, .data⟩ (by simp) rfl).1 21 rfl
          have yg : y 6 = some true := (hdep ⟨6, .guard⟩ (by simp) rfl).2 11 rfl
          have ocn : ∀ v, ρ (.const v) = v := fun v => hout (.const v) rfl
          have ofn : ∀ f, ρ (.func f) = .func (.func f) #[] #[] := fun f => hout (.func f) rfl
          clear hdep hout
          refine .inl ⟨?_, ?_⟩
          · show (y 6 == some true) = true
            rw [yg]; rfl
          show Gives _ _ _ (.bool false) _
          refine Gives.call (l6In_b n1 0 ((cl : Int) - 1) false g2 x) ?_
          go_simp
        rcases i with _ | i
        · obtain rfl := Option.some.inj ho
          have e6 : ρ (.tmp 11) = .bool true := (hdep ⟨6, .data⟩ (by simp) rfl).1 11 rfl
          have e17 : ρ (.tmp 22) = .bool false := (hdep ⟨17, .data⟩ (by simp) rfl).1 22 rfl
          have ocn : ∀ v, ρ (.const v) = v := fun v => hout (.const v) rfl
          clear hdep hout
          refine .inl ⟨rfl, (Gives.val ?_ : Gives _ _ _ (.bool false) _)⟩
          go_simp
        rcases i with _ | i
        · obtain rfl := Option.some.inj ho
          have e18 : ρ (.tmp 23) = .bool false := (hdep ⟨18, .data⟩ (by simp) rfl).1 23 rfl
          clear hdep hout
          refine .inl ⟨rfl, (Gives.val ?_ : Gives _ _ _ (.bool false) _)⟩
          go_simp
        rcases i with _ | i
        · obtain rfl := Option.some.inj ho
          have yg : y 19 = some false := (hdep ⟨19, .guard⟩ (by simp) rfl).2 24 rfl
          exact .inr ⟨by show (y 19 == some true) = false; rw [yg]; rfl, rfl⟩
        rcases i with _ | i
        · obtain rfl := Option.some.inj ho
          have yg : y 19 = some false := (hdep ⟨19, .guard⟩ (by simp) rfl).2 24 rfl
          exact .inr ⟨by show (y 19 == some true) = false; rw [yg]; rfl, rfl⟩
        rcases i with _ | i
        · obtain rfl := Option.some.inj ho
          have yg : y 19 = some false := (hdep ⟨19, .guard⟩ (by simp) rfl).2 24 rfl
          exact .inr ⟨by show (y 19 == some true) = false; rw [yg]; rfl, rfl⟩
        rcases i with _ | i
        · obtain rfl := Option.some.inj ho
          have e19 : ρ (.tmp 24) = .bool false := (hdep ⟨19, .data⟩ (by simp) rfl).1 24 rfl
          have e22 : ρ (.tmp 27) = undef := (hdep ⟨22, .data⟩ (by simp) rfl).1 27 rfl
          have ocn : ∀ v, ρ (.const v) = v := fun v => hout (.const v) rfl
          clear hdep hout
          refine .inl ⟨rfl, (Gives.val ?_ : Gives _ _ _ (.bool false) _)⟩
          go_simp
        rcases i with _ | i
        · obtain rfl := Option.some.inj ho
          have e23 : ρ (.tmp 28) = .bool false := (hdep ⟨23, .data⟩ (by simp) rfl).1 28 rfl
          clear hdep hout
          refine .inl ⟨rfl, (Gives.val ?_ : Gives _ _ _ (.bool false) _)⟩
          go_simp
        rcases i with _ | i
        · obtain rfl := Option.some.inj ho
          have yg : y 24 = some false := (hdep ⟨24, .guard⟩ (by simp) rfl).2 29 rfl
          exact .inr ⟨by show (y 24 == some true) = false; rw [yg]; rfl, rfl⟩
        rcases i with _ | i
        · obtain rfl := Option.some.inj ho
          have yg : y 24 = some false := (hdep ⟨24, .guard⟩ (by simp) rfl).2 29 rfl
          exact .inr ⟨by show (y 24 == some true) = false; rw [yg]; rfl, rfl⟩
        rcases i with _ | i
        · obtain rfl := Option.some.inj ho
          have yg : y 24 = some false := (hdep ⟨24, .guard⟩ (by simp) rfl).2 29 rfl
          exact .inr ⟨by show (y 24 == some true) = false; rw [yg]; rfl, rfl⟩
        rcases i with _ | i
        · obtain rfl := Option.some.inj ho
          have yg : y 24 = some false := (hdep ⟨24, .guard⟩ (by simp) rfl).2 29 rfl
          exact .inr ⟨by show (y 24 == some true) = false; rw [yg]; rfl, rfl⟩
        rcases i with _ | i
        · obtain rfl := Option.some.inj ho
          have yg : y 24 = some false := (hdep ⟨24, .guard⟩ (by simp) rfl).2 29 rfl
          exact .inr ⟨by show (y 24 == some true) = false; rw [yg]; rfl, rfl⟩
        rcases i with _ | i
        · obtain rfl := Option.some.inj ho
          have yg : y 24 = some false := (hdep ⟨24, .guard⟩ (by simp) rfl).2 29 rfl
          exact .inr ⟨by show (y 24 == some true) = false; rw [yg]; rfl, rfl⟩
        rcases i with _ | i
        · obtain rfl := Option.some.inj ho
          have yg : y 24 = some false := (hdep ⟨24, .guard⟩ (by simp) rfl).2 29 rfl
          exact .inr ⟨by show (y 24 == some true) = false; rw [yg]; rfl, rfl⟩
        rcases i with _ | i
        · obtain rfl := Option.some.inj ho
          have yg : y 24 = some false := (hdep ⟨24, .guard⟩ (by simp) rfl).2 29 rfl
          exact .inr ⟨by show (y 24 == some true) = false; rw [yg]; rfl, rfl⟩
        rcases i with _ | i
        · obtain rfl := Option.some.inj ho
          have yg : y 24 = some false := (hdep ⟨24, .guard⟩ (by simp) rfl).2 29 rfl
          exact .inr ⟨by show (y 24 == some true) = false; rw [yg]; rfl, rfl⟩
        rcases i with _ | i
        · obtain rfl := Option.some.inj ho
          have yg : y 24 = some false := (hdep ⟨24, .guard⟩ (by simp) rfl).2 29 rfl
          exact .inr ⟨by show (y 24 == some true) = false; rw [yg]; rfl, rfl⟩
        rcases i with _ | i
        · obtain rfl := Option.some.inj ho
          have yg : y 24 = some false := (hdep ⟨24, .guard⟩ (by simp) rfl).2 29 rfl
          exact .inr ⟨by show (y 24 == some true) = false; rw [yg]; rfl, rfl⟩
        rcases i with _ | i
        · obtain rfl := Option.some.inj ho
          have yg : y 24 = some false := (hdep ⟨24, .guard⟩ (by simp) rfl).2 29 rfl
          exact .inr ⟨by show (y 24 == some true) = false; rw [yg]; rfl, rfl⟩
        rcases i with _ | i
        · obtain rfl := Option.some.inj ho
          have yg : y 24 = some false := (hdep ⟨24, .guard⟩ (by simp) rfl).2 29 rfl
          exact .inr ⟨by show (y 24 == some true) = false; rw [yg]; rfl, rfl⟩
        rcases i with _ | i
        · obtain rfl := Option.some.inj ho
          have yg : y 24 = some false := (hdep ⟨24, .guard⟩ (by simp) rfl).2 29 rfl
          exact .inr ⟨by show (y 24 == some true) = false; rw [yg]; rfl, rfl⟩
        rcases i with _ | i
        · obtain rfl := Option.some.inj ho
          have e24 : ρ (.tmp 29) = .bool false := (hdep ⟨24, .data⟩ (by simp) rfl).1 29 rfl
          have e38 : ρ (.tmp 43) = undef := (hdep ⟨38, .data⟩ (by simp) rfl).1 43 rfl
          have ocn : ∀ v, ρ (.const v) = v := fun v => hout (.const v) rfl
          clear hdep hout
          refine .inl ⟨rfl, (Gives.val ?_ : Gives _ _ _ (.bool false) _)⟩
          go_simp
        rcases i with _ | i
        · obtain rfl := Option.some.inj ho
          have e39 : ρ (.tmp 44) = .bool false := (hdep ⟨39, .data⟩ (by simp) rfl).1 44 rfl
          clear hdep hout
          refine .inl ⟨rfl, (Gives.val ?_ : Gives _ _ _ (.bool false) _)⟩
          go_simp
        cases ho
      case fin =>
        intro x hBx
        have hBf := HAl.out.trans (hBx.mono HAl.out.size)
        go_wp2_with fail
        go_ret
        exact ⟨retBool (by rw [HFr2.out, g2]; rfl), hBf⟩
    · obtain ⟨a, rfl⟩ : ∃ a : Nat, n1 = a := ⟨n1.toNat, by simp only [inI, Bool.and_eq_true, decide_eq_true_eq] at g2; omega⟩
      have ha' : a < (P.getD k []).length := by simp only [inI, Bool.and_eq_true, decide_eq_true_eq] at g2; omega
      have hins := HCO.out.2 a ha'
      have hkk := insOkF_kind hins
      obtain ⟨gi, o2, hp2, hg2, hI⟩ := HC.out.ins ha'
      subst hp2
      have HFr3 : Hid (FF = (!decide (n2 = 0) && decide (faultF ((P.getD k []).getD a i0) = n2))) := by
        show FF = _
        rw [HFr2.out, g2]; simp
      obtain ⟨q0, q1, q2, q3⟩ := hI
      generalize (P.getD k []).getD a i0 = I at *
      have HFO : Hid (∀ z : World, Calls Tryz.prog 74 #[.agg #[.int .i64 I.1, .int .i64 I.2.1, .int .i64 I.2.2.1, .int .i64 I.2.2.2]] z fun e y => e = .returned (.int .i64 (faultF I)) ∧ Below z.heap.size z y) := fun z => l3May_any I hkk.1 hkk.2.1 z
      have hai : (a : Int) < ((P.getD k []).length : Int) := by omega
      clear HCO HC HFr2 hins hkk
      generalize (P.getD k []).length = cl at *
      generalize P.length = pn at *
      by_cases h5 : n2 = 0
      · subst h5
        go_enter Tryz.func50, Tryz.ntmps50
        go_wp2_with fail
        generalize x0.alloc (.cells #[.int .i64 k, .int .i64 a, .int .i64 0] 94) = X at HAl K00 ⊢
        refine wp_region_vals (by kernel_rfl) (by kernel_rfl) (by kernel_rfl) (by kernel_rfl) (fun j => [.pointer (some ⟨x0.heap.size, 0, none⟩), .int .i64 k, .slice (some ⟨g, o, none⟩) pn cap, .int .i64 pn, .int .i64 ((pn : Int) - 1), .bool true, .bool true, .pointer (some ⟨x0.heap.size, 1, none⟩), .int .i64 a, .slice (some ⟨g, o, none⟩) pn cap, .pointer (some ⟨x0.heap.size, 0, none⟩), .int .i64 k, .pointer (some ⟨g, o + k, none⟩), .pointer (some ⟨g, o + k, none⟩), .slice (some ⟨gi, o2, none⟩) cl ck, .int .i64 cl, .int .i64 ((cl : Int) - 1), .bool true, .bool true, .bool true, .pointer (some ⟨x0.heap.size, 2, none⟩), .int .i64 0, .bool false, .bool false, .bool false, undef, undef, undef, undef, undef, undef, undef, undef, undef, undef, undef, undef, undef, undef, .bool false, .bool false].getD j undef) X (Below.drew (Below.refl _ _)) ?step ⟨#[.slice (some ⟨g, o, none⟩) pn cap, .agg #[.int .i64 k, .int .i64 a, .int .i64 0], undef, .pointer (some ⟨x0.heap.size, 0, none⟩), .bool false, .pointer (some ⟨x0.heap.size, 0, none⟩), .int .i64 k, .slice (some ⟨g, o, none⟩) pn cap, .int .i64 pn, .int .i64 ((pn : Int) - 1), .bool true, .bool true, .pointer (some ⟨x0.heap.size, 1, none⟩), .int .i64 a, .slice (some ⟨g, o, none⟩) pn cap, .pointer (some ⟨x0.heap.size, 0, none⟩), .int .i64 k, .pointer (some ⟨g, o + k, none⟩), .pointer (some ⟨g, o + k, none⟩), .slice (some ⟨gi, o2, none⟩) cl ck, .int .i64 cl, .int .i64 ((cl : Int) - 1), .bool true, .bool true, .bool true, .pointer (some ⟨x0.heap.size, 2, none⟩), .int .i64 0, .bool false, .bool false, .bool false, undef, undef, undef, undef, undef, undef, undef, undef, undef, undef, undef, undef, undef, undef, .bool false], []⟩ (by kernel_rfl) ?fin
        case step =>
          intro i o ho ρ y x hBx hdep hout
          rcases i with _ | i
          · obtain rfl := Option.some.inj ho
            have o3 : ρ (.tmp 3) = .pointer (some ⟨x0.heap.size, 0, none⟩) := hout (.tmp 3) rfl
            clear hdep hout
            refine .inl ⟨rfl, (Gives.val ?_ : Gives _ _ _ (.pointer (some ⟨x0.heap.size, 0, none⟩)) _)⟩
            go_simp
          rcases i with _ | i
          · obtain rfl := Option.some.inj ho
            have e0 : ρ (.tmp 5) = .pointer (some ⟨x0.heap.size, 0, none⟩) := (hdep ⟨0, .data⟩ (by simp) rfl).1 5 rfl
            clear hdep hout
            have kb := K00.out.later hBx
            have c0 := kb.c 0 _ rfl
            have c1 := kb.c 1 _ rfl
            have c2 := kb.c 2 _ rfl
            have cl0 := kb.lt
            refine .inl ⟨rfl, (Gives.val ?_ : Gives _ _ _ (.int .i64 k) _)⟩
            go_simp
          rcases i with _ | i
          · obtain rfl := Option.some.inj ho
            have o0 : ρ (.tmp 0) = .slice (some ⟨g, o, none⟩) pn cap := hout (.tmp 0) rfl
            clear hdep hout
            refine .inl ⟨rfl, (Gives.val ?_ : Gives _ _ _ (.slice (some ⟨g, o, none⟩) pn cap) _)⟩
            go_simp
          rcases i with _ | i
          · obtain rfl := Option.some.inj ho
            have e2 : ρ (.tmp 7) = .slice (some ⟨g, o, none⟩) pn cap := (hdep ⟨2, .data⟩ (by simp) rfl).1 7 rfl
            clear hdep hout
            refine .inl ⟨rfl, (Gives.val ?_ : Gives _ _ _ (.int .i64 pn) _)⟩
            go_simp
          rcases i with _ | i
          · obtain rfl := Option.some.inj ho
            have e3 : ρ (.tmp 8) = .int .i64 pn := (hdep ⟨3, .data⟩ (by simp) rfl).1 8 rfl
            have ocn : ∀ v, ρ (.const v) = v := fun v => hout (.const v) rfl
            clear hdep hout
            refine .inl ⟨rfl, (Gives.val ?_ : Gives _ _ _ (.int .i64 ((pn : Int) - 1)) _)⟩
            (go_simp; exact IntWalk.i64_in _ (by omega))
          rcases i with _ | i
          · obtain rfl := Option.some.inj ho
            have e1 : ρ (.tmp 6) = .int .i64 k := (hdep ⟨1, .data⟩ (by simp) rfl).1 6 rfl
            have e4 : ρ (.tmp 9) = .int .i64 ((pn : Int) - 1) := (hdep ⟨4, .data⟩ (by simp) rfl).1 9 rfl
            have ocn : ∀ v, ρ (.const v) = v := fun v => hout (.const v) rfl
            have ofn : ∀ f, ρ (.func f) = .func (.func f) #[] #[] := fun f => hout (.func f) rfl
            clear hdep hout
            refine .inl ⟨?_, ?_⟩
            · rfl
            show Gives _ _ _ (.bool true) _
            refine Gives.call (l6In_b k 0 ((pn : Int) - 1) true g1 x) ?_
            go_simp
          rcases i with _ | i
          · obtain rfl := Option.some.inj ho
            have e5 : ρ (.tmp 10) = .bool true := (hdep ⟨5, .data⟩ (by simp) rfl).1 10 rfl
            clear hdep hout
            refine .inl ⟨rfl, (Gives.val ?_ : Gives _ _ _ (.bool true) _)⟩
            go_simp
          rcases i with _ | i
          · obtain rfl := Option.some.inj ho
            have o3 : ρ (.tmp 3) = .pointer (some ⟨x0.heap.size, 0, none⟩) := hout (.tmp 3) rfl
            have yg : y 6 = some true := (hdep ⟨6, .guard⟩ (by simp) rfl).2 11 rfl
            clear hdep hout
            refine .inl ⟨(by show (y 6 == some true) = true; rw [yg]; rfl), (Gives.val ?_ : Gives _ _ _ (.pointer (some ⟨x0.heap.size, 1, none⟩)) _)⟩
            go_simp
          rcases i with _ | i
          · obtain rfl := Option.some.inj ho
            have e7 : ρ (.tmp 12) = .pointer (some ⟨x0.heap.size, 1, none⟩) := (hdep ⟨7, .data⟩ (by simp) rfl).1 12 rfl
            have yg : y 6 = some true := (hdep ⟨6, .guard⟩ (by simp) rfl).2 11 rfl
            clear hdep hout
            have kb := K00.out.later hBx
            have c0 := kb.c 0 _ rfl
            have c1 := kb.c 1 _ rfl
            have c2 := kb.c 2 _ rfl
            have cl0 := kb.lt
            refine .inl ⟨(by show (y 6 == some true) = true; rw [yg]; rfl), (Gives.val ?_ : Gives _ _ _ (.int .i64 a) _)⟩
            go_simp
          rcases i with _ | i
          · obtain rfl := Option.some.inj ho
            have o0 : ρ (.tmp 0) = .slice (some ⟨g, o, none⟩) pn cap := hout (.tmp 0) rfl
            have yg : y 6 = some true := (hdep ⟨6, .guard⟩ (by simp) rfl).2 11 rfl
            clear hdep hout
            refine .inl ⟨(by show (y 6 == some true) = true; rw [yg]; rfl), (Gives.val ?_ : Gives _ _ _ (.slice (some ⟨g, o, none⟩) pn cap) _)⟩
            go_simp
          rcases i with _ | i
          · obtain rfl := Option.some.inj ho
            have o3 : ρ (.tmp 3) = .pointer (some ⟨x0.heap.size, 0, none⟩) := hout (.tmp 3) rfl
            have yg : y 6 = some true := (hdep ⟨6, .guard⟩ (by simp) rfl).2 11 rfl
            clear hdep hout
            refine .inl ⟨(by show (y 6 == some true) = true; rw [yg]; rfl), (Gives.val ?_ : Gives _ _ _ (.pointer (some ⟨x0.heap.size, 0, none⟩)) _)⟩
            go_simp
          rcases i with _ | i
          · obtain rfl := Option.some.inj ho
            have e10 : ρ (.tmp 15) = .pointer (some ⟨x0.heap.size, 0, none⟩) := (hdep ⟨10, .data⟩ (by simp) rfl).1 15 rfl
            have yg : y 6 = some true := (hdep ⟨6, .guard⟩ (by simp) rfl).2 11 rfl
            clear hdep hout
            have kb := K00.out.later hBx
            have c0 := kb.c 0 _ rfl
            have c1 := kb.c 1 _ rfl
            have c2 := kb.c 2 _ rfl
            have cl0 := kb.lt
            refine .inl ⟨(by show (y 6 == some true) = true; rw [yg]; rfl), (Gives.val ?_ : Gives _ _ _ (.int .i64 k) _)⟩
            go_simp
          rcases i with _ | i
          · obtain rfl := Option.some.inj ho
            have e9 : ρ (.tmp 14) = .slice (some ⟨g, o, none⟩) pn cap := (hdep ⟨9, .data⟩ (by simp) rfl).1 14 rfl
            have e11 : ρ (.tmp 16) = .int .i64 k := (hdep ⟨11, .data⟩ (by simp) rfl).1 16 rfl
            have yg : y 6 = some true := (hdep ⟨6, .guard⟩ (by simp) rfl).2 11 rfl
            clear hdep hout
            refine .inl ⟨(by show (y 6 == some true) = true; rw [yg]; rfl), (Gives.val ?_ : Gives _ _ _ (.pointer (some ⟨g, o + k, none⟩)) _)⟩
            go_simp
          rcases i with _ | i
          · obtain rfl := Option.some.inj ho
            have e12 : ρ (.tmp 17) = .pointer (some ⟨g, o + k, none⟩) := (hdep ⟨12, .data⟩ (by simp) rfl).1 17 rfl
            have yg : y 6 = some true := (hdep ⟨6, .guard⟩ (by simp) rfl).2 11 rfl
            clear hdep hout
            refine .inl ⟨(by show (y 6 == some true) = true; rw [yg]; rfl), (Gives.val ?_ : Gives _ _ _ (.pointer (some ⟨g, o + k, none⟩)) _)⟩
            go_simp
          rcases i with _ | i
          · obtain rfl := Option.some.inj ho
            have e13 : ρ (.tmp 18) = .pointer (some ⟨g, o + k, none⟩) := (hdep ⟨13, .data⟩ (by simp) rfl).1 18 rfl
            have yg : y 6 = some true := (hdep ⟨6, .guard⟩ (by simp) rfl).2 11 rfl
            clear hdep hout
            have hcu := ((HAl.out.trans (hBx.mono HAl.out.size)).cell (p := ⟨g, o + k, none⟩) hg).trans hu
            refine .inl ⟨(by show (y 6 == some true) = true; rw [yg]; rfl), (Gives.val ?_ : Gives _ _ _ (.slice (some ⟨gi, o2, none⟩) cl ck) _)⟩
            go_simp
          rcases i with _ | i
          · obtain rfl := Option.some.inj ho
            have e14 : ρ (.tmp 19) = .slice (some ⟨gi, o2, none⟩) cl ck := (hdep ⟨14, .data⟩ (by simp) rfl).1 19 rfl
            have yg : y 6 = some true := (hdep ⟨6, .guard⟩ (by simp) rfl).2 11 rfl
            clear hdep hout
            refine .inl ⟨(by show (y 6 == some true) = true; rw [yg]; rfl), (Gives.val ?_ : Gives _ _ _ (.int .i64 cl) _)⟩
            go_simp
          rcases i with _ | i
          · obtain rfl := Option.some.inj ho
            have e15 : ρ (.tmp 20) = .int .i64 cl := (hdep ⟨15, .data⟩ (by simp) rfl).1 20 rfl
            have yg : y 6 = some true := (hdep ⟨6, .guard⟩ (by simp) rfl).2 11 rfl
            have ocn : ∀ v, ρ (.const v) = v := fun v => hout (.const v) rfl
            clear hdep hout
            refine .inl ⟨(by show (y 6 == some true) = true; rw [yg]; rfl), (Gives.val ?_ : Gives _ _ _ (.int .i64 ((cl : Int) - 1)) _)⟩
            (go_simp; exact IntWalk.i64_in _ (by omega))
          rcases i with _ | i
          · obtain rfl := Option.some.inj ho
            have e8 : ρ (.tmp 13) = .int .i64 a := (hdep ⟨8, .data⟩ (by simp) rfl).1 13 rfl
            have e16 : ρ (.tmp 21) = .int .i64 ((cl : Int) - 1) := (hdep ⟨16, .data⟩ (by simp) rfl).1 21 rfl
            have yg : y 6 = some true := (hdep ⟨6, .guard⟩ (by simp) rfl).2 11 rfl
            have ocn : ∀ v, ρ (.const v) = v := fun v => hout (.const v) rfl
            have ofn : ∀ f, ρ (.func f) = .func (.func f) #[] #[] := fun f => hout (.func f) rfl
            clear hdep hout
            refine .inl ⟨?_, ?_⟩
            · show (y 6 == some true) = true
              rw [yg]; rfl
            show Gives _ _ _ (.bool true) _
            refine Gives.call (l6In_b a 0 ((cl : Int) - 1) true g2 x) ?_
            go_simp
          rcases i with _ | i
          · obtain rfl := Option.some.inj ho
            have e6 : ρ (.tmp 11) = .bool true := (hdep ⟨6, .data⟩ (by simp) rfl).1 11 rfl
            have e17 : ρ (.tmp 22) = .bool true := (hdep ⟨17, .data⟩ (by simp) rfl).1 22 rfl
            have ocn : ∀ v, ρ (.const v) = v := fun v => hout (.const v) rfl
            clear hdep hout
            refine .inl ⟨rfl, (Gives.val ?_ : Gives _ _ _ (.bool true) _)⟩
            go_simp
          rcases i with _ | i
          · obtain rfl := Option.some.inj ho
            have e18 : ρ (.tmp 23) = .bool true := (hdep ⟨18, .data⟩ (by simp) rfl).1 23 rfl
            clear hdep hout
            refine .inl ⟨rfl, (Gives.val ?_ : Gives _ _ _ (.bool true) _)⟩
            go_simp
          rcases i with _ | i
          · obtain rfl := Option.some.inj ho
            have o3 : ρ (.tmp 3) = .pointer (some ⟨x0.heap.size, 0, none⟩) := hout (.tmp 3) rfl
            have yg : y 19 = some true := (hdep ⟨19, .guard⟩ (by simp) rfl).2 24 rfl
            clear hdep hout
            refine .inl ⟨(by show (y 19 == some true) = true; rw [yg]; rfl), (Gives.val ?_ : Gives _ _ _ (.pointer (some ⟨x0.heap.size, 2, none⟩)) _)⟩
            go_simp
          rcases i with _ | i
          · obtain rfl := Option.some.inj ho
            have e20 : ρ (.tmp 25) = .pointer (some ⟨x0.heap.size, 2, none⟩) := (hdep ⟨20, .data⟩ (by simp) rfl).1 25 rfl
            have yg : y 19 = some true := (hdep ⟨19, .guard⟩ (by simp) rfl).2 24 rfl
            clear hdep hout
            have kb := K00.out.later hBx
            have c0 := kb.c 0 _ rfl
            have c1 := kb.c 1 _ rfl
            have c2 := kb.c 2 _ rfl
            have cl0 := kb.lt
            refine .inl ⟨(by show (y 19 == some true) = true; rw [yg]; rfl), (Gives.val ?_ : Gives _ _ _ (.int .i64 0) _)⟩
            go_simp
          rcases i with _ | i
          · obtain rfl := Option.some.inj ho
            have e21 : ρ (.tmp 26) = .int .i64 0 := (hdep ⟨21, .data⟩ (by simp) rfl).1 26 rfl
            have yg : y 19 = some true := (hdep ⟨19, .guard⟩ (by simp) rfl).2 24 rfl
            have ocn : ∀ v, ρ (.const v) = v := fun v => hout (.const v) rfl
            clear hdep hout
            refine .inl ⟨(by show (y 19 == some true) = true; rw [yg]; rfl), (Gives.val ?_ : Gives _ _ _ (.bool false) _)⟩
            go_simp
          rcases i with _ | i
          · obtain rfl := Option.some.inj ho
            have e19 : ρ (.tmp 24) = .bool true := (hdep ⟨19, .data⟩ (by simp) rfl).1 24 rfl
            have e22 : ρ (.tmp 27) = .bool false := (hdep ⟨22, .data⟩ (by simp) rfl).1 27 rfl
            have ocn : ∀ v, ρ (.const v) = v := fun v => hout (.const v) rfl
            clear hdep hout
            refine .inl ⟨rfl, (Gives.val ?_ : Gives _ _ _ (.bool false) _)⟩
            go_simp
          rcases i with _ | i
          · obtain rfl := Option.some.inj ho
            have e23 : ρ (.tmp 28) = .bool false := (hdep ⟨23, .data⟩ (by simp) rfl).1 28 rfl
            clear hdep hout
            refine .inl ⟨rfl, (Gives.val ?_ : Gives _ _ _ (.bool false) _)⟩
            go_simp
          rcases i with _ | i
          · obtain rfl := Option.some.inj ho
            have yg : y 24 = some false := (hdep ⟨24, .guard⟩ (by simp) rfl).2 29 rfl
            exact .inr ⟨by show (y 24 == some true) = false; rw [yg]; rfl, rfl⟩
          rcases i with _ | i
          · obtain rfl := Option.some.inj ho
            have yg : y 24 = some false := (hdep ⟨24, .guard⟩ (by simp) rfl).2 29 rfl
            exact .inr ⟨by show (y 24 == some true) = false; rw [yg]; rfl, rfl⟩
          rcases i with _ | i
          · obtain rfl := Option.some.inj ho
            have yg : y 24 = some false := (hdep ⟨24, .guard⟩ (by simp) rfl).2 29 rfl
            exact .inr ⟨by show (y 24 == some true) = false; rw [yg]; rfl, rfl⟩
          rcases i with _ | i
          · obtain rfl := Option.some.inj ho
            have yg : y 24 = some false := (hdep ⟨24, .guard⟩ (by simp) rfl).2 29 rfl
            exact .inr ⟨by show (y 24 == some true) = false; rw [yg]; rfl, rfl⟩
          rcases i with _ | i
          · obtain rfl := Option.some.inj ho
            have yg : y 24 = some false := (hdep ⟨24, .guard⟩ (by simp) rfl).2 29 rfl
            exact .inr ⟨by show (y 24 == some true) = false; rw [yg]; rfl, rfl⟩
          rcases i with _ | i
          · obtain rfl := Option.some.inj ho
            have yg : y 24 = some false := (hdep ⟨24, .guard⟩ (by simp) rfl).2 29 rfl
            exact .inr ⟨by show (y 24 == some true) = false; rw [yg]; rfl, rfl⟩
          rcases i with _ | i
          · obtain rfl := Option.some.inj ho
            have yg : y 24 = some false := (hdep ⟨24, .guard⟩ (by simp) rfl).2 29 rfl
            exact .inr ⟨by show (y 24 == some true) = false; rw [yg]; rfl, rfl⟩
          rcases i with _ | i
          · obtain rfl := Option.some.inj ho
            have yg : y 24 = some false := (hdep ⟨24, .guard⟩ (by simp) rfl).2 29 rfl
            exact .inr ⟨by show (y 24 == some true) = false; rw [yg]; rfl, rfl⟩
          rcases i with _ | i
          · obtain rfl := Option.some.inj ho
            have yg : y 24 = some false := (hdep ⟨24, .guard⟩ (by simp) rfl).2 29 rfl
            exact .inr ⟨by show (y 24 == some true) = false; rw [yg]; rfl, rfl⟩
          rcases i with _ | i
          · obtain rfl := Option.some.inj ho
            have yg : y 24 = some false := (hdep ⟨24, .guard⟩ (by simp) rfl).2 29 rfl
            exact .inr ⟨by show (y 24 == some true) = false; rw [yg]; rfl, rfl⟩
          rcases i with _ | i
          · obtain rfl := Option.some.inj ho
            have yg : y 24 = some false := (hdep ⟨24, .guard⟩ (by simp) rfl).2 29 rfl
            exact .inr ⟨by show (y 24 == some true) = false; rw [yg]; rfl, rfl⟩
          rcases i with _ | i
          · obtain rfl := Option.some.inj ho
            have yg : y 24 = some false := (hdep ⟨24, .guard⟩ (by simp) rfl).2 29 rfl
            exact .inr ⟨by show (y 24 == some true) = false; rw [yg]; rfl, rfl⟩
          rcases i with _ | i
          · obtain rfl := Option.some.inj ho
            have yg : y 24 = some false := (hdep ⟨24, .guard⟩ (by simp) rfl).2 29 rfl
            exact .inr ⟨by show (y 24 == some true) = false; rw [yg]; rfl, rfl⟩
          rcases i with _ | i
          · obtain rfl := Option.some.inj ho
            have yg : y 24 = some false := (hdep ⟨24, .guard⟩ (by simp) rfl).2 29 rfl
            exact .inr ⟨by show (y 24 == some true) = false; rw [yg]; rfl, rfl⟩
          rcases i with _ | i
          · obtain rfl := Option.some.inj ho
            have e24 : ρ (.tmp 29) = .bool false := (hdep ⟨24, .data⟩ (by simp) rfl).1 29 rfl
            have e38 : ρ (.tmp 43) = undef := (hdep ⟨38, .data⟩ (by simp) rfl).1 43 rfl
            have ocn : ∀ v, ρ (.const v) = v := fun v => hout (.const v) rfl
            clear hdep hout
            refine .inl ⟨rfl, (Gives.val ?_ : Gives _ _ _ (.bool false) _)⟩
            go_simp
          rcases i with _ | i
          · obtain rfl := Option.some.inj ho
            have e39 : ρ (.tmp 44) = .bool false := (hdep ⟨39, .data⟩ (by simp) rfl).1 44 rfl
            clear hdep hout
            refine .inl ⟨rfl, (Gives.val ?_ : Gives _ _ _ (.bool false) _)⟩
            go_simp
          cases ho
        case fin =>
          intro x hBx
          have hBf := HAl.out.trans (hBx.mono HAl.out.size)
          go_wp2_with fail
          go_ret
          exact ⟨retBool (by rw [HFr3.out]; simp), hBf⟩
      · have h5n : (n2 != 0) = true := by simp [h5]
        go_enter Tryz.func50, Tryz.ntmps50
        go_wp2_with fail
        generalize x0.alloc (.cells #[.int .i64 k, .int .i64 a, .int .i64 n2] 94) = X at HAl K00 ⊢
        refine wp_region_vals (by kernel_rfl) (by kernel_rfl) (by kernel_rfl) (by kernel_rfl) (fun j => [.pointer (some ⟨x0.heap.size, 0, none⟩), .int .i64 k, .slice (some ⟨g, o, none⟩) pn cap, .int .i64 pn, .int .i64 ((pn : Int) - 1), .bool true, .bool true, .pointer (some ⟨x0.heap.size, 1, none⟩), .int .i64 a, .slice (some ⟨g, o, none⟩) pn cap, .pointer (some ⟨x0.heap.size, 0, none⟩), .int .i64 k, .pointer (some ⟨g, o + k, none⟩), .pointer (some ⟨g, o + k, none⟩), .slice (some ⟨gi, o2, none⟩) cl ck, .int .i64 cl, .int .i64 ((cl : Int) - 1), .bool true, .bool true, .bool true, .pointer (some ⟨x0.heap.size, 2, none⟩), .int .i64 n2, .bool true, .bool true, .bool true, .slice (some ⟨g, o, none⟩) pn cap, .pointer (some ⟨x0.heap.size, 0, none⟩), .int .i64 k, .pointer (some ⟨g, o + k, none⟩), .pointer (some ⟨g, o + k, none⟩), .slice (some ⟨gi, o2, none⟩) cl ck, .pointer (some ⟨x0.heap.size, 1, none⟩), .int .i64 a, .pointer (some ⟨gi, o2 + a * 4, none⟩), .agg #[.int .i64 I.1, .int .i64 I.2.1, .int .i64 I.2.2.1, .int .i64 I.2.2.2], .int .i64 (faultF I), .pointer (some ⟨x0.heap.size, 2, none⟩), .int .i64 n2, .bool (faultF I == n2), .bool (faultF I == n2), .bool (faultF I == n2)].getD j undef) X (Below.drew (Below.refl _ _)) ?step ⟨#[.slice (some ⟨g, o, none⟩) pn cap, .agg #[.int .i64 k, .int .i64 a, .int .i64 n2], undef, .pointer (some ⟨x0.heap.size, 0, none⟩), .bool (faultF I == n2), .pointer (some ⟨x0.heap.size, 0, none⟩), .int .i64 k, .slice (some ⟨g, o, none⟩) pn cap, .int .i64 pn, .int .i64 ((pn : Int) - 1), .bool true, .bool true, .pointer (some ⟨x0.heap.size, 1, none⟩), .int .i64 a, .slice (some ⟨g, o, none⟩) pn cap, .pointer (some ⟨x0.heap.size, 0, none⟩), .int .i64 k, .pointer (some ⟨g, o + k, none⟩), .pointer (some ⟨g, o + k, none⟩), .slice (some ⟨gi, o2, none⟩) cl ck, .int .i64 cl, .int .i64 ((cl : Int) - 1), .bool true, .bool true, .bool true, .pointer (some ⟨x0.heap.size, 2, none⟩), .int .i64 n2, .bool true, .bool true, .bool true, .slice (some ⟨g, o, none⟩) pn cap, .pointer (some ⟨x0.heap.size, 0, none⟩), .int .i64 k, .pointer (some ⟨g, o + k, none⟩), .pointer (some ⟨g, o + k, none⟩), .slice (some ⟨gi, o2, none⟩) cl ck, .pointer (some ⟨x0.heap.size, 1, none⟩), .int .i64 a, .pointer (some ⟨gi, o2 + a * 4, none⟩), .agg #[.int .i64 I.1, .int .i64 I.2.1, .int .i64 I.2.2.1, .int .i64 I.2.2.2], .int .i64 (faultF I), .pointer (some ⟨x0.heap.size, 2, none⟩), .int .i64 n2, .bool (faultF I == n2), .bool (faultF I == n2)], []⟩ (by kernel_rfl) ?fin
        case step =>
          intro i o ho ρ y x hBx hdep hout
          rcases i with _ | i
          · obtain rfl := Option.some.inj ho
            have o3 : ρ (.tmp 3) = .pointer (some ⟨x0.heap.size, 0, none⟩) := hout (.tmp 3) rfl
            clear hdep hout
            refine .inl ⟨rfl, (Gives.val ?_ : Gives _ _ _ (.pointer (some ⟨x0.heap.size, 0, none⟩)) _)⟩
            go_simp
          rcases i with _ | i
          · obtain rfl := Option.some.inj ho
            have e0 : ρ (.tmp 5) = .pointer (some ⟨x0.heap.size, 0, none⟩) := (hdep ⟨0, .data⟩ (by simp) rfl).1 5 rfl
            clear hdep hout
            have kb := K00.out.later hBx
            have c0 := kb.c 0 _ rfl
            have c1 := kb.c 1 _ rfl
            have c2 := kb.c 2 _ rfl
            have cl0 := kb.lt
            refine .inl ⟨rfl, (Gives.val ?_ : Gives _ _ _ (.int .i64 k) _)⟩
            go_simp
          rcases i with _ | i
          · obtain rfl := Option.some.inj ho
            have o0 : ρ (.tmp 0) = .slice (some ⟨g, o, none⟩) pn cap := hout (.tmp 0) rfl
            clear hdep hout
            refine .inl ⟨rfl, (Gives.val ?_ : Gives _ _ _ (.slice (some ⟨g, o, none⟩) pn cap) _)⟩
            go_simp
          rcases i with _ | i
          · obtain rfl := Option.some.inj ho
            have e2 : ρ (.tmp 7) = .slice (some ⟨g, o, none⟩) pn cap := (hdep ⟨2, .data⟩ (by simp) rfl).1 7 rfl
            clear hdep hout
            refine .inl ⟨rfl, (Gives.val ?_ : Gives _ _ _ (.int .i64 pn) _)⟩
            go_simp
          rcases i with _ | i
          · obtain rfl := Option.some.inj ho
            have e3 : ρ (.tmp 8) = .int .i64 pn := (hdep ⟨3, .data⟩ (by simp) rfl).1 8 rfl
            have ocn : ∀ v, ρ (.const v) = v := fun v => hout (.const v) rfl
            clear hdep hout
            refine .inl ⟨rfl, (Gives.val ?_ : Gives _ _ _ (.int .i64 ((pn : Int) - 1)) _)⟩
            (go_simp; exact IntWalk.i64_in _ (by omega))
          rcases i with _ | i
          · obtain rfl := Option.some.inj ho
            have e1 : ρ (.tmp 6) = .int .i64 k := (hdep ⟨1, .data⟩ (by simp) rfl).1 6 rfl
            have e4 : ρ (.tmp 9) = .int .i64 ((pn : Int) - 1) := (hdep ⟨4, .data⟩ (by simp) rfl).1 9 rfl
            have ocn : ∀ v, ρ (.const v) = v := fun v => hout (.const v) rfl
            have ofn : ∀ f, ρ (.func f) = .func (.func f) #[] #[] := fun f => hout (.func f) rfl
            clear hdep hout
            refine .inl ⟨?_, ?_⟩
            · rfl
            show Gives _ _ _ (.bool true) _
            refine Gives.call (l6In_b k 0 ((pn : Int) - 1) true g1 x) ?_
            go_simp
          rcases i with _ | i
          · obtain rfl := Option.some.inj ho
            have e5 : ρ (.tmp 10) = .bool true := (hdep ⟨5, .data⟩ (by simp) rfl).1 10 rfl
            clear hdep hout
            refine .inl ⟨rfl, (Gives.val ?_ : Gives _ _ _ (.bool true) _)⟩
            go_simp
          rcases i with _ | i
          · obtain rfl := Option.some.inj ho
            have o3 : ρ (.tmp 3) = .pointer (some ⟨x0.heap.size, 0, none⟩) := hout (.tmp 3) rfl
            have yg : y 6 = some true := (hdep ⟨6, .guard⟩ (by simp) rfl).2 11 rfl
            clear hdep hout
            refine .inl ⟨(by show (y 6 == some true) = true; rw [yg]; rfl), (Gives.val ?_ : Gives _ _ _ (.pointer (some ⟨x0.heap.size, 1, none⟩)) _)⟩
            go_simp
          rcases i with _ | i
          · obtain rfl := Option.some.inj ho
            have e7 : ρ (.tmp 12) = .pointer (some ⟨x0.heap.size, 1, none⟩) := (hdep ⟨7, .data⟩ (by simp) rfl).1 12 rfl
            have yg : y 6 = some true := (hdep ⟨6, .guard⟩ (by simp) rfl).2 11 rfl
            clear hdep hout
            have kb := K00.out.later hBx
            have c0 := kb.c 0 _ rfl
            have c1 := kb.c 1 _ rfl
            have c2 := kb.c 2 _ rfl
            have cl0 := kb.lt
            refine .inl ⟨(by show (y 6 == some true) = true; rw [yg]; rfl), (Gives.val ?_ : Gives _ _ _ (.int .i64 a) _)⟩
            go_simp
          rcases i with _ | i
          · obtain rfl := Option.some.inj ho
            have o0 : ρ (.tmp 0) = .slice (some ⟨g, o, none⟩) pn cap := hout (.tmp 0) rfl
            have yg : y 6 = some true := (hdep ⟨6, .guard⟩ (by simp) rfl).2 11 rfl
            clear hdep hout
            refine .inl ⟨(by show (y 6 == some true) = true; rw [yg]; rfl), (Gives.val ?_ : Gives _ _ _ (.slice (some ⟨g, o, none⟩) pn cap) _)⟩
            go_simp
          rcases i with _ | i
          · obtain rfl := Option.some.inj ho
            have o3 : ρ (.tmp 3) = .pointer (some ⟨x0.heap.size, 0, none⟩) := hout (.tmp 3) rfl
            have yg : y 6 = some true := (hdep ⟨6, .guard⟩ (by simp) rfl).2 11 rfl
            clear hdep hout
            refine .inl ⟨(by show (y 6 == some true) = true; rw [yg]; rfl), (Gives.val ?_ : Gives _ _ _ (.pointer (some ⟨x0.heap.size, 0, none⟩)) _)⟩
            go_simp
          rcases i with _ | i
          · obtain rfl := Option.some.inj ho
            have e10 : ρ (.tmp 15) = .pointer (some ⟨x0.heap.size, 0, none⟩) := (hdep ⟨10, .data⟩ (by simp) rfl).1 15 rfl
            have yg : y 6 = some true := (hdep ⟨6, .guard⟩ (by simp) rfl).2 11 rfl
            clear hdep hout
            have kb := K00.out.later hBx
            have c0 := kb.c 0 _ rfl
            have c1 := kb.c 1 _ rfl
            have c2 := kb.c 2 _ rfl
            have cl0 := kb.lt
            refine .inl ⟨(by show (y 6 == some true) = true; rw [yg]; rfl), (Gives.val ?_ : Gives _ _ _ (.int .i64 k) _)⟩
            go_simp
          rcases i with _ | i
          · obtain rfl := Option.some.inj ho
            have e9 : ρ (.tmp 14) = .slice (some ⟨g, o, none⟩) pn cap := (hdep ⟨9, .data⟩ (by simp) rfl).1 14 rfl
            have e11 : ρ (.tmp 16) = .int .i64 k := (hdep ⟨11, .data⟩ (by simp) rfl).1 16 rfl
            have yg : y 6 = some true := (hdep ⟨6, .guard⟩ (by simp) rfl).2 11 rfl
            clear hdep hout
            refine .inl ⟨(by show (y 6 == some true) = true; rw [yg]; rfl), (Gives.val ?_ : Gives _ _ _ (.pointer (some ⟨g, o + k, none⟩)) _)⟩
            go_simp
          rcases i with _ | i
          · obtain rfl := Option.some.inj ho
            have e12 : ρ (.tmp 17) = .pointer (some ⟨g, o + k, none⟩) := (hdep ⟨12, .data⟩ (by simp) rfl).1 17 rfl
            have yg : y 6 = some true := (hdep ⟨6, .guard⟩ (by simp) rfl).2 11 rfl
            clear hdep hout
            refine .inl ⟨(by show (y 6 == some true) = true; rw [yg]; rfl), (Gives.val ?_ : Gives _ _ _ (.pointer (some ⟨g, o + k, none⟩)) _)⟩
            go_simp
          rcases i with _ | i
          · obtain rfl := Option.some.inj ho
            have e13 : ρ (.tmp 18) = .pointer (some ⟨g, o + k, none⟩) := (hdep ⟨13, .data⟩ (by simp) rfl).1 18 rfl
            have yg : y 6 = some true := (hdep ⟨6, .guard⟩ (by simp) rfl).2 11 rfl
            clear hdep hout
            have hcu := ((HAl.out.trans (hBx.mono HAl.out.size)).cell (p := ⟨g, o + k, none⟩) hg).trans hu
            refine .inl ⟨(by show (y 6 == some true) = true; rw [yg]; rfl), (Gives.val ?_ : Gives _ _ _ (.slice (some ⟨gi, o2, none⟩) cl ck) _)⟩
            go_simp
          rcases i with _ | i
          · obtain rfl := Option.some.inj ho
            have e14 : ρ (.tmp 19) = .slice (some ⟨gi, o2, none⟩) cl ck := (hdep ⟨14, .data⟩ (by simp) rfl).1 19 rfl
            have yg : y 6 = some true := (hdep ⟨6, .guard⟩ (by simp) rfl).2 11 rfl
            clear hdep hout
            refine .inl ⟨(by show (y 6 == some true) = true; rw [yg]; rfl), (Gives.val ?_ : Gives _ _ _ (.int .i64 cl) _)⟩
            go_simp
          rcases i with _ | i
          · obtain rfl := Option.some.inj ho
            have e15 : ρ (.tmp 20) = .int .i64 cl := (hdep ⟨15, .data⟩ (by simp) rfl).1 20 rfl
            have yg : y 6 = some true := (hdep ⟨6, .guard⟩ (by simp) rfl).2 11 rfl
            have ocn : ∀ v, ρ (.const v) = v := fun v => hout (.const v) rfl
            clear hdep hout
            refine .inl ⟨(by show (y 6 == some true) = true; rw [yg]; rfl), (Gives.val ?_ : Gives _ _ _ (.int .i64 ((cl : Int) - 1)) _)⟩
            (go_simp; exact IntWalk.i64_in _ (by omega))
          rcases i with _ | i
          · obtain rfl := Option.some.inj ho
            have e8 : ρ (.tmp 13) = .int .i64 a := (hdep ⟨8, .data⟩ (by simp) rfl).1 13 rfl
            have e16 : ρ (.tmp 21) = .int .i64 ((cl : Int) - 1) := (hdep ⟨16, .data⟩ (by simp) rfl).1 21 rfl
            have yg : y 6 = some true := (hdep ⟨6, .guard⟩ (by simp) rfl).2 11 rfl
            have ocn : ∀ v, ρ (.const v) = v := fun v => hout (.const v) rfl
            have ofn : ∀ f, ρ (.func f) = .func (.func f) #[] #[] := fun f => hout (.func f) rfl
            clear hdep hout
            refine .inl ⟨?_, ?_⟩
            · show (y 6 == some true) = true
              rw [yg]; rfl
            show Gives _ _ _ (.bool true) _
            refine Gives.call (l6In_b a 0 ((cl : Int) - 1) true g2 x) ?_
            go_simp
          rcases i with _ | i
          · obtain rfl := Option.some.inj ho
            have e6 : ρ (.tmp 11) = .bool true := (hdep ⟨6, .data⟩ (by simp) rfl).1 11 rfl
            have e17 : ρ (.tmp 22) = .bool true := (hdep ⟨17, .data⟩ (by simp) rfl).1 22 rfl
            have ocn : ∀ v, ρ (.const v) = v := fun v => hout (.const v) rfl
            clear hdep hout
            refine .inl ⟨rfl, (Gives.val ?_ : Gives _ _ _ (.bool true) _)⟩
            go_simp
          rcases i with _ | i
          · obtain rfl := Option.some.inj ho
            have e18 : ρ (.tmp 23) = .bool true := (hdep ⟨18, .data⟩ (by simp) rfl).1 23 rfl
            clear hdep hout
            refine .inl ⟨rfl, (Gives.val ?_ : Gives _ _ _ (.bool true) _)⟩
            go_simp
          rcases i with _ | i
          · obtain rfl := Option.some.inj ho
            have o3 : ρ (.tmp 3) = .pointer (some ⟨x0.heap.size, 0, none⟩) := hout (.tmp 3) rfl
            have yg : y 19 = some true := (hdep ⟨19, .guard⟩ (by simp) rfl).2 24 rfl
            clear hdep hout
            refine .inl ⟨(by show (y 19 == some true) = true; rw [yg]; rfl), (Gives.val ?_ : Gives _ _ _ (.pointer (some ⟨x0.heap.size, 2, none⟩)) _)⟩
            go_simp
          rcases i with _ | i
          · obtain rfl := Option.some.inj ho
            have e20 : ρ (.tmp 25) = .pointer (some ⟨x0.heap.size, 2, none⟩) := (hdep ⟨20, .data⟩ (by simp) rfl).1 25 rfl
            have yg : y 19 = some true := (hdep ⟨19, .guard⟩ (by simp) rfl).2 24 rfl
            clear hdep hout
            have kb := K00.out.later hBx
            have c0 := kb.c 0 _ rfl
            have c1 := kb.c 1 _ rfl
            have c2 := kb.c 2 _ rfl
            have cl0 := kb.lt
            refine .inl ⟨(by show (y 19 == some true) = true; rw [yg]; rfl), (Gives.val ?_ : Gives _ _ _ (.int .i64 n2) _)⟩
            go_simp
          rcases i with _ | i
          · obtain rfl := Option.some.inj ho
            have e21 : ρ (.tmp 26) = .int .i64 n2 := (hdep ⟨21, .data⟩ (by simp) rfl).1 26 rfl
            have yg : y 19 = some true := (hdep ⟨19, .guard⟩ (by simp) rfl).2 24 rfl
            have ocn : ∀ v, ρ (.const v) = v := fun v => hout (.const v) rfl
            clear hdep hout
            refine .inl ⟨(by show (y 19 == some true) = true; rw [yg]; rfl), (Gives.val ?_ : Gives _ _ _ (.bool true) _)⟩
            go_simp
          rcases i with _ | i
          · obtain rfl := Option.some.inj ho
            have e19 : ρ (.tmp 24) = .bool true := (hdep ⟨19, .data⟩ (by simp) rfl).1 24 rfl
            have e22 : ρ (.tmp 27) = .bool true := (hdep ⟨22, .data⟩ (by simp) rfl).1 27 rfl
            have ocn : ∀ v, ρ (.const v) = v := fun v => hout (.const v) rfl
            clear hdep hout
            refine .inl ⟨rfl, (Gives.val ?_ : Gives _ _ _ (.bool true) _)⟩
            go_simp
          rcases i with _ | i
          · obtain rfl := Option.some.inj ho
            have e23 : ρ (.tmp 28) = .bool true := (hdep ⟨23, .data⟩ (by simp) rfl).1 28 rfl
            clear hdep hout
            refine .inl ⟨rfl, (Gives.val ?_ : Gives _ _ _ (.bool true) _)⟩
            go_simp
          rcases i with _ | i
          · obtain rfl := Option.some.inj ho
            have o0 : ρ (.tmp 0) = .slice (some ⟨g, o, none⟩) pn cap := hout (.tmp 0) rfl
            have yg : y 24 = some true := (hdep ⟨24, .guard⟩ (by simp) rfl).2 29 rfl
            clear hdep hout
            refine .inl ⟨(by show (y 24 == some true) = true; rw [yg]; rfl), (Gives.val ?_ : Gives _ _ _ (.slice (some ⟨g, o, none⟩) pn cap) _)⟩
            go_simp
          rcases i with _ | i
          · obtain rfl := Option.some.inj ho
            have o3 : ρ (.tmp 3) = .pointer (some ⟨x0.heap.size, 0, none⟩) := hout (.tmp 3) rfl
            have yg : y 24 = some true := (hdep ⟨24, .guard⟩ (by simp) rfl).2 29 rfl
            clear hdep hout
            refine .inl ⟨(by show (y 24 == some true) = true; rw [yg]; rfl), (Gives.val ?_ : Gives _ _ _ (.pointer (some ⟨x0.heap.size, 0, none⟩)) _)⟩
            go_simp
          rcases i with _ | i
          · obtain rfl := Option.some.inj ho
            have e26 : ρ (.tmp 31) = .pointer (some ⟨x0.heap.size, 0, none⟩) := (hdep ⟨26, .data⟩ (by simp) rfl).1 31 rfl
            have yg : y 24 = some true := (hdep ⟨24, .guard⟩ (by simp) rfl).2 29 rfl
            clear hdep hout
            have kb := K00.out.later hBx
            have c0 := kb.c 0 _ rfl
            have c1 := kb.c 1 _ rfl
            have c2 := kb.c 2 _ rfl
            have cl0 := kb.lt
            refine .inl ⟨(by show (y 24 == some true) = true; rw [yg]; rfl), (Gives.val ?_ : Gives _ _ _ (.int .i64 k) _)⟩
            go_simp
          rcases i with _ | i
          · obtain rfl := Option.some.inj ho
            have e25 : ρ (.tmp 30) = .slice (some ⟨g, o, none⟩) pn cap := (hdep ⟨25, .data⟩ (by simp) rfl).1 30 rfl
            have e27 : ρ (.tmp 32) = .int .i64 k := (hdep ⟨27, .data⟩ (by simp) rfl).1 32 rfl
            have yg : y 24 = some true := (hdep ⟨24, .guard⟩ (by simp) rfl).2 29 rfl
            clear hdep hout
            refine .inl ⟨(by show (y 24 == some true) = true; rw [yg]; rfl), (Gives.val ?_ : Gives _ _ _ (.pointer (some ⟨g, o + k, none⟩)) _)⟩
            go_simp
          rcases i with _ | i
          · obtain rfl := Option.some.inj ho
            have e28 : ρ (.tmp 33) = .pointer (some ⟨g, o + k, none⟩) := (hdep ⟨28, .data⟩ (by simp) rfl).1 33 rfl
            have yg : y 24 = some true := (hdep ⟨24, .guard⟩ (by simp) rfl).2 29 rfl
            clear hdep hout
            refine .inl ⟨(by show (y 24 == some true) = true; rw [yg]; rfl), (Gives.val ?_ : Gives _ _ _ (.pointer (some ⟨g, o + k, none⟩)) _)⟩
            go_simp
          rcases i with _ | i
          · obtain rfl := Option.some.inj ho
            have e29 : ρ (.tmp 34) = .pointer (some ⟨g, o + k, none⟩) := (hdep ⟨29, .data⟩ (by simp) rfl).1 34 rfl
            have yg : y 24 = some true := (hdep ⟨24, .guard⟩ (by simp) rfl).2 29 rfl
            clear hdep hout
            have hcu := ((HAl.out.trans (hBx.mono HAl.out.size)).cell (p := ⟨g, o + k, none⟩) hg).trans hu
            refine .inl ⟨(by show (y 24 == some true) = true; rw [yg]; rfl), (Gives.val ?_ : Gives _ _ _ (.slice (some ⟨gi, o2, none⟩) cl ck) _)⟩
            go_simp
          rcases i with _ | i
          · obtain rfl := Option.some.inj ho
            have o3 : ρ (.tmp 3) = .pointer (some ⟨x0.heap.size, 0, none⟩) := hout (.tmp 3) rfl
            have yg : y 24 = some true := (hdep ⟨24, .guard⟩ (by simp) rfl).2 29 rfl
            clear hdep hout
            refine .inl ⟨(by show (y 24 == some true) = true; rw [yg]; rfl), (Gives.val ?_ : Gives _ _ _ (.pointer (some ⟨x0.heap.size, 1, none⟩)) _)⟩
            go_simp
          rcases i with _ | i
          · obtain rfl := Option.some.inj ho
            have e31 : ρ (.tmp 36) = .pointer (some ⟨x0.heap.size, 1, none⟩) := (hdep ⟨31, .data⟩ (by simp) rfl).1 36 rfl
            have yg : y 24 = some true := (hdep ⟨24, .guard⟩ (by simp) rfl).2 29 rfl
            clear hdep hout
            have kb := K00.out.later hBx
            have c0 := kb.c 0 _ rfl
            have c1 := kb.c 1 _ rfl
            have c2 := kb.c 2 _ rfl
            have cl0 := kb.lt
            refine .inl ⟨(by show (y 24 == some true) = true; rw [yg]; rfl), (Gives.val ?_ : Gives _ _ _ (.int .i64 a) _)⟩
            go_simp
          rcases i with _ | i
          · obtain rfl := Option.some.inj ho
            have e30 : ρ (.tmp 35) = .slice (some ⟨gi, o2, none⟩) cl ck := (hdep ⟨30, .data⟩ (by simp) rfl).1 35 rfl
            have e32 : ρ (.tmp 37) = .int .i64 a := (hdep ⟨32, .data⟩ (by simp) rfl).1 37 rfl
            have yg : y 24 = some true := (hdep ⟨24, .guard⟩ (by simp) rfl).2 29 rfl
            clear hdep hout
            refine .inl ⟨(by show (y 24 == some true) = true; rw [yg]; rfl), (Gives.val ?_ : Gives _ _ _ (.pointer (some ⟨gi, o2 + a * 4, none⟩)) _)⟩
            go_simp
          rcases i with _ | i
          · obtain rfl := Option.some.inj ho
            have e33 : ρ (.tmp 38) = .pointer (some ⟨gi, o2 + a * 4, none⟩) := (hdep ⟨33, .data⟩ (by simp) rfl).1 38 rfl
            have yg : y 24 = some true := (hdep ⟨24, .guard⟩ (by simp) rfl).2 29 rfl
            clear hdep hout
            have hbz := HAl.out.trans (hBx.mono HAl.out.size)
            have i0 := (hbz.cell (p := ⟨gi, o2 + a * 4, none⟩) hg2).trans q0
            have i1 := (hbz.cell (p := ⟨gi, o2 + a * 4 + 1, none⟩) hg2).trans q1
            have i2 := (hbz.cell (p := ⟨gi, o2 + a * 4 + 2, none⟩) hg2).trans q2
            have i3 := (hbz.cell (p := ⟨gi, o2 + a * 4 + 3, none⟩) hg2).trans q3
            refine .inl ⟨(by show (y 24 == some true) = true; rw [yg]; rfl), (Gives.val ?_ : Gives _ _ _ (.agg #[.int .i64 I.1, .int .i64 I.2.1, .int .i64 I.2.2.1, .int .i64 I.2.2.2]) _)⟩
            go_simp
          rcases i with _ | i
          · obtain rfl := Option.some.inj ho
            have e34 : ρ (.tmp 39) = .agg #[.int .i64 I.1, .int .i64 I.2.1, .int .i64 I.2.2.1, .int .i64 I.2.2.2] := (hdep ⟨34, .data⟩ (by simp) rfl).1 39 rfl
            have yg : y 24 = some true := (hdep ⟨24, .guard⟩ (by simp) rfl).2 29 rfl
            have ofn : ∀ f, ρ (.func f) = .func (.func f) #[] #[] := fun f => hout (.func f) rfl
            clear hdep hout
            refine .inl ⟨?_, ?_⟩
            · show (y 24 == some true) = true
              rw [yg]; rfl
            show Gives _ _ _ (.int .i64 (faultF I)) _
            refine Gives.call (HFO.out x) ?_
            go_simp
          rcases i with _ | i
          · obtain rfl := Option.some.inj ho
            have o3 : ρ (.tmp 3) = .pointer (some ⟨x0.heap.size, 0, none⟩) := hout (.tmp 3) rfl
            have yg : y 24 = some true := (hdep ⟨24, .guard⟩ (by simp) rfl).2 29 rfl
            clear hdep hout
            refine .inl ⟨(by show (y 24 == some true) = true; rw [yg]; rfl), (Gives.val ?_ : Gives _ _ _ (.pointer (some ⟨x0.heap.size, 2, none⟩)) _)⟩
            go_simp
          rcases i with _ | i
          · obtain rfl := Option.some.inj ho
            have e36 : ρ (.tmp 41) = .pointer (some ⟨x0.heap.size, 2, none⟩) := (hdep ⟨36, .data⟩ (by simp) rfl).1 41 rfl
            have yg : y 24 = some true := (hdep ⟨24, .guard⟩ (by simp) rfl).2 29 rfl
            clear hdep hout
            have kb := K00.out.later hBx
            have c0 := kb.c 0 _ rfl
            have c1 := kb.c 1 _ rfl
            have c2 := kb.c 2 _ rfl
            have cl0 := kb.lt
            refine .inl ⟨(by show (y 24 == some true) = true; rw [yg]; rfl), (Gives.val ?_ : Gives _ _ _ (.int .i64 n2) _)⟩
            go_simp
          rcases i with _ | i
          · obtain rfl := Option.some.inj ho
            have e35 : ρ (.tmp 40) = .int .i64 (faultF I) := (hdep ⟨35, .data⟩ (by simp) rfl).1 40 rfl
            have e37 : ρ (.tmp 42) = .int .i64 n2 := (hdep ⟨37, .data⟩ (by simp) rfl).1 42 rfl
            have yg : y 24 = some true := (hdep ⟨24, .guard⟩ (by simp) rfl).2 29 rfl
            clear hdep hout
            refine .inl ⟨(by show (y 24 == some true) = true; rw [yg]; rfl), (Gives.val ?_ : Gives _ _ _ (.bool (faultF I == n2)) _)⟩
            go_simp
          rcases i with _ | i
          · obtain rfl := Option.some.inj ho
            have e24 : ρ (.tmp 29) = .bool true := (hdep ⟨24, .data⟩ (by simp) rfl).1 29 rfl
            have e38 : ρ (.tmp 43) = .bool (faultF I == n2) := (hdep ⟨38, .data⟩ (by simp) rfl).1 43 rfl
            have ocn : ∀ v, ρ (.const v) = v := fun v => hout (.const v) rfl
            clear hdep hout
            refine .inl ⟨rfl, (Gives.val ?_ : Gives _ _ _ (.bool (faultF I == n2)) _)⟩
            go_simp
          rcases i with _ | i
          · obtain rfl := Option.some.inj ho
            have e39 : ρ (.tmp 44) = .bool (faultF I == n2) := (hdep ⟨39, .data⟩ (by simp) rfl).1 44 rfl
            clear hdep hout
            refine .inl ⟨rfl, (Gives.val ?_ : Gives _ _ _ (.bool (faultF I == n2)) _)⟩
            go_simp
          cases ho
        case fin =>
          intro x hBx
          have hBf := HAl.out.trans (hBx.mono HAl.out.size)
          go_wp2_with fail
          go_ret
          exact ⟨retBool (by rw [HFr3.out]; exact eqb2 n2 (faultF I) h5), hBf⟩

end Go.Proofs.YtlkebkajdlgebaaGreat

/-
  The contracts of KindSpan, the program's and the model's.
-/
namespace Go.Proofs.YtlkebkajdlgebaaGreat
open Go.RowKit
set_option linter.unusedVariables false
set_option linter.unusedSimpArgs false

set_option maxHeartbeats 1000000 in
theorem kind_spec (k : Int) (w : World) : Calls Tryz.prog 91 #[.int .i64 k] w fun e w' => RetSp (kindF k) e ∧ Below w.heap.size w w' := by
  by_cases h0 : k = 0
  · subst h0
    go_enter Tryz.func91, Tryz.ntmps91
    go_wp2_with fail
    refine (l1Of_any _ _ _).mono ?_
    rintro e w1 ⟨hs1, hr1⟩
    obtain ⟨a1, l1, u1, hx1, rfl⟩ := hs1.out
    clear hs1
    have hb1 : Below w.heap.size w w1 := ((Below.refl _ _).alloc (by go_size) _).trans (hr1.mono (by go_size))
    have hz1 : w.heap.size + 1 ≤ w1.heap.size := by have := hr1.size; first | omega | (simp at this; omega)
    have hB1 : Below w.heap.size w w1 := hb1
    have c1x0o0 : w1.cell? ⟨w.heap.size, 0, none⟩ = some (.bool false) := (hr1.cell (p := ⟨w.heap.size, 0, none⟩) (by go_size)).trans (by simp [go_sem])
    have f1x0o0 : w1.frozen? ⟨w.heap.size, 0, none⟩ = false := (hr1.frozen (p := ⟨w.heap.size, 0, none⟩) (by go_size)).trans (by simp [go_sem])
    have c1x0o1 : w1.cell? ⟨w.heap.size, 1, none⟩ = some (.int .i64 0) := (hr1.cell (p := ⟨w.heap.size, 1, none⟩) (by go_size)).trans (by simp [go_sem])
    have f1x0o1 : w1.frozen? ⟨w.heap.size, 1, none⟩ = false := (hr1.frozen (p := ⟨w.heap.size, 1, none⟩) (by go_size)).trans (by simp [go_sem])
    have c1x0o2 : w1.cell? ⟨w.heap.size, 2, none⟩ = some (.int .i64 0) := (hr1.cell (p := ⟨w.heap.size, 2, none⟩) (by go_size)).trans (by simp [go_sem])
    have f1x0o2 : w1.frozen? ⟨w.heap.size, 2, none⟩ = false := (hr1.frozen (p := ⟨w.heap.size, 2, none⟩) (by go_size)).trans (by simp [go_sem])
    have n1x0 : w.heap.size < w1.heap.size := by omega
    clear hr1 hb1
    go_wp2
    refine bodyPost_ret (v := .agg #[.bool a1, .int .i64 l1, .int .i64 u1]) (by simp [results, Tryz.results91, go_sem, n1x0, c1x0o0, c1x0o1, c1x0o2]) rfl ⟨RetSp.mk ((show kindF 0 = mkF (-16) (-1) from by simp [kindF, mkF]).trans hx1), ?_⟩
    go_grown
  have q0 : (k == 0) = false := by simp [h0]
  by_cases h1 : k = 1
  · subst h1
    go_enter Tryz.func91, Tryz.ntmps91
    go_wp2_with fail
    refine (l1Of_any _ _ _).mono ?_
    rintro e w1 ⟨hs1, hr1⟩
    obtain ⟨a1, l1, u1, hx1, rfl⟩ := hs1.out
    clear hs1
    have hb1 : Below w.heap.size w w1 := ((Below.refl _ _).alloc (by go_size) _).trans (hr1.mono (by go_size))
    have hz1 : w.heap.size + 1 ≤ w1.heap.size := by have := hr1.size; first | omega | (simp at this; omega)
    have hB1 : Below w.heap.size w w1 := hb1
    have c1x0o0 : w1.cell? ⟨w.heap.size, 0, none⟩ = some (.bool false) := (hr1.cell (p := ⟨w.heap.size, 0, none⟩) (by go_size)).trans (by simp [go_sem])
    have f1x0o0 : w1.frozen? ⟨w.heap.size, 0, none⟩ = false := (hr1.frozen (p := ⟨w.heap.size, 0, none⟩) (by go_size)).trans (by simp [go_sem])
    have c1x0o1 : w1.cell? ⟨w.heap.size, 1, none⟩ = some (.int .i64 0) := (hr1.cell (p := ⟨w.heap.size, 1, none⟩) (by go_size)).trans (by simp [go_sem])
    have f1x0o1 : w1.frozen? ⟨w.heap.size, 1, none⟩ = false := (hr1.frozen (p := ⟨w.heap.size, 1, none⟩) (by go_size)).trans (by simp [go_sem])
    have c1x0o2 : w1.cell? ⟨w.heap.size, 2, none⟩ = some (.int .i64 0) := (hr1.cell (p := ⟨w.heap.size, 2, none⟩) (by go_size)).trans (by simp [go_sem])
    have f1x0o2 : w1.frozen? ⟨w.heap.size, 2, none⟩ = false := (hr1.frozen (p := ⟨w.heap.size, 2, none⟩) (by go_size)).trans (by simp [go_sem])
    have n1x0 : w.heap.size < w1.heap.size := by omega
    clear hr1 hb1
    go_wp2
    refine bodyPost_ret (v := .agg #[.bool a1, .int .i64 l1, .int .i64 u1]) (by simp [results, Tryz.results91, go_sem, n1x0, c1x0o0, c1x0o1, c1x0o2]) rfl ⟨RetSp.mk ((show kindF 1 = mkF 0 0 from by simp [kindF, mkF]).trans hx1), ?_⟩
    go_grown
  have q1 : (k == 1) = false := by simp [h1]
  by_cases h2 : k = 2
  · subst h2
    go_enter Tryz.func91, Tryz.ntmps91
    go_wp2_with fail
    refine (l1Of_any _ _ _).mono ?_
    rintro e w1 ⟨hs1, hr1⟩
    obtain ⟨a1, l1, u1, hx1, rfl⟩ := hs1.out
    clear hs1
    have hb1 : Below w.heap.size w w1 := ((Below.refl _ _).alloc (by go_size) _).trans (hr1.mono (by go_size))
    have hz1 : w.heap.size + 1 ≤ w1.heap.size := by have := hr1.size; first | omega | (simp at this; omega)
    have hB1 : Below w.heap.size w w1 := hb1
    have c1x0o0 : w1.cell? ⟨w.heap.size, 0, none⟩ = some (.bool false) := (hr1.cell (p := ⟨w.heap.size, 0, none⟩) (by go_size)).trans (by simp [go_sem])
    have f1x0o0 : w1.frozen? ⟨w.heap.size, 0, none⟩ = false := (hr1.frozen (p := ⟨w.heap.size, 0, none⟩) (by go_size)).trans (by simp [go_sem])
    have c1x0o1 : w1.cell? ⟨w.heap.size, 1, none⟩ = some (.int .i64 0) := (hr1.cell (p := ⟨w.heap.size, 1, none⟩) (by go_size)).trans (by simp [go_sem])
    have f1x0o1 : w1.frozen? ⟨w.heap.size, 1, none⟩ = false := (hr1.frozen (p := ⟨w.heap.size, 1, none⟩) (by go_size)).trans (by simp [go_sem])
    have c1x0o2 : w1.cell? ⟨w.heap.size, 2, none⟩ = some (.int .i64 0) := (hr1.cell (p := ⟨w.heap.size, 2, none⟩) (by go_size)).trans (by simp [go_sem])
    have f1x0o2 : w1.frozen? ⟨w.heap.size, 2, none⟩ = false := (hr1.frozen (p := ⟨w.heap.size, 2, none⟩) (by go_size)).trans (by simp [go_sem])
    have n1x0 : w.heap.size < w1.heap.size := by omega
    clear hr1 hb1
    go_wp2
    refine bodyPost_ret (v := .agg #[.bool a1, .int .i64 l1, .int .i64 u1]) (by simp [results, Tryz.results91, go_sem, n1x0, c1x0o0, c1x0o1, c1x0o2]) rfl ⟨RetSp.mk ((show kindF 2 = mkF 1 15 from by simp [kindF, mkF]).trans hx1), ?_⟩
    go_grown
  have q2 : (k == 2) = false := by simp [h2]
  go_enter Tryz.func91, Tryz.ntmps91
  go_wp2
  go_returns
  exact ⟨RetSp.mk (by simp [kindF, h0, h1, h2, noSp]), by go_grown⟩

set_option maxHeartbeats 1000000 in
theorem kind_impl (k : Int) (w : World) : Calls Tryz.prog 94 #[.int .i64 k] w fun e w' => RetSp (kindF k) e ∧ Below w.heap.size w w' := by
  by_cases h0 : k = 0
  · subst h0
    go_enter Tryz.func94, Tryz.ntmps94
    go_wp2
    go_returns
    exact ⟨RetSp.mk (by simp [kindF]), by go_grown⟩
  have q0 : (k == 0) = false := by simp [h0]
  by_cases h1 : k = 1
  · subst h1
    go_enter Tryz.func94, Tryz.ntmps94
    go_wp2_with fail
    refine (of_impl _ _).mono ?_
    rintro e w1 ⟨hs1, hr1⟩
    obtain ⟨a1, l1, u1, hx1, rfl⟩ := hs1.out
    clear hs1
    have hb1 : Below w.heap.size w w1 := ((Below.refl _ _).alloc (by go_size) _).trans (hr1.mono (by go_size))
    have hz1 : w.heap.size + 1 ≤ w1.heap.size := by have := hr1.size; first | omega | (simp at this; omega)
    have hB1 : Below w.heap.size w w1 := hb1
    have c1x0o0 : w1.cell? ⟨w.heap.size, 0, none⟩ = some (.bool false) := (hr1.cell (p := ⟨w.heap.size, 0, none⟩) (by go_size)).trans (by simp [go_sem])
    have f1x0o0 : w1.frozen? ⟨w.heap.size, 0, none⟩ = false := (hr1.frozen (p := ⟨w.heap.size, 0, none⟩) (by go_size)).trans (by simp [go_sem])
    have c1x0o1 : w1.cell? ⟨w.heap.size, 1, none⟩ = some (.int .i64 0) := (hr1.cell (p := ⟨w.heap.size, 1, none⟩) (by go_size)).trans (by simp [go_sem])
    have f1x0o1 : w1.frozen? ⟨w.heap.size, 1, none⟩ = false := (hr1.frozen (p := ⟨w.heap.size, 1, none⟩) (by go_size)).trans (by simp [go_sem])
    have c1x0o2 : w1.cell? ⟨w.heap.size, 2, none⟩ = some (.int .i64 0) := (hr1.cell (p := ⟨w.heap.size, 2, none⟩) (by go_size)).trans (by simp [go_sem])
    have f1x0o2 : w1.frozen? ⟨w.heap.size, 2, none⟩ = false := (hr1.frozen (p := ⟨w.heap.size, 2, none⟩) (by go_size)).trans (by simp [go_sem])
    have n1x0 : w.heap.size < w1.heap.size := by omega
    clear hr1 hb1
    go_wp2
    refine bodyPost_ret (v := .agg #[.bool a1, .int .i64 l1, .int .i64 u1]) (by simp [results, Tryz.results94, go_sem, n1x0, c1x0o0, c1x0o1, c1x0o2]) rfl ⟨RetSp.mk ((show kindF 1 = ofF 0 from by simp [kindF, ofF, isW]).trans hx1), ?_⟩
    go_grown
  have q1 : (k == 1) = false := by simp [h1]
  by_cases h2 : k = 2
  · subst h2
    go_enter Tryz.func94, Tryz.ntmps94
    go_wp2
    go_returns
    exact ⟨RetSp.mk (by simp [kindF]), by go_grown⟩
  have q2 : (k == 2) = false := by simp [h2]
  go_enter Tryz.func94, Tryz.ntmps94
  go_wp2
  go_returns
  exact ⟨RetSp.mk (by simp [kindF, h0, h1, h2, noSp]), by go_grown⟩

end Go.Proofs.YtlkebkajdlgebaaGreat

/-
  The contract of the program's SpanJoin.
-/
namespace Go.Proofs.YtlkebkajdlgebaaGreat
open Go.RowKit
set_option linter.unusedVariables false
set_option linter.unusedSimpArgs false

theorem okF_bd {l u : Int} (h : okF true l u = true) : -16 ≤ l ∧ l ≤ 15 ∧ -16 ≤ u ∧ u ≤ 15 ∧ l ≤ u := by simpa [okF] using h
theorem okF_no {l u : Int} (h : okF false l u = true) : l = 0 ∧ u = 0 := by simpa [okF] using h
theorem join_none_r (a : Bool) (al ah bl bh : Int) (h1 : okF a al ah = true) (h2 : okF false bl bh = true) : joinF a al ah false bl bh = (a, al, ah) := by
  obtain ⟨rfl, rfl⟩ := okF_no h2
  cases a
  · obtain ⟨rfl, rfl⟩ := okF_no h1
    simp [joinF, h1]
  · simp [joinF, h1, h2]
theorem join_mk {al ah bl bh x y : Int} (h1 : okF true al ah = true) (h2 : okF true bl bh = true) (hx : x = min al bl) (hy : y = max ah bh) : joinF true al ah true bl bh = mkF x y := by
  have e1 := okF_bd h1
  have e2 := okF_bd h2
  subst hx hy
  unfold mkF
  rw [if_neg (by omega)]
  simp [joinF, h1, h2]
theorem join_ends (a : Bool) (al ah bl bh : Int) (h1 : okF a al ah = true) (h2 : okF true bl bh = true) : joinF a al ah true bl bh = if a = true then (true, min al bl, max ah bh) else (true, bl, bh) := by
  cases a <;> simp [joinF, h1, h2]

set_option maxHeartbeats 1000000 in
theorem join_impl (a : Bool) (al ah : Int) (b : Bool) (bl bh : Int) (w : World) : Calls Tryz.prog 68 #[.agg #[.bool a, .int .i64 al, .int .i64 ah], .agg #[.bool b, .int .i64 bl, .int .i64 bh]] w fun e w' => RetSp (joinF a al ah b bl bh) e ∧ Below w.heap.size w w' := by
  cases ho1 : okF a al ah
  · go_enter Tryz.func68, Tryz.ntmps68
    go_wp2_with fail
    refine (ok_impl _ _ _ _).mono ?_
    rintro e w1 ⟨rfl, hr1⟩
    have hb1 : Below w.heap.size w w1 := ((((Below.refl _ _).alloc (by go_size) _).alloc (by go_size) _).alloc (by go_size) _).trans (hr1.mono (by go_size))
    have hz1 : w.heap.size + 3 ≤ w1.heap.size := by have := hr1.size; first | omega | (simp at this; omega)
    have hB1 : Below w.heap.size w w1 := hb1
    have c1x0o0 : w1.cell? ⟨w.heap.size, 0, none⟩ = some (.bool a) := (hr1.cell (p := ⟨w.heap.size, 0, none⟩) (by go_size)).trans (by simp [go_sem])
    have c1x0o1 : w1.cell? ⟨w.heap.size, 1, none⟩ = some (.int .i64 al) := (hr1.cell (p := ⟨w.heap.size, 1, none⟩) (by go_size)).trans (by simp [go_sem])
    have c1x0o2 : w1.cell? ⟨w.heap.size, 2, none⟩ = some (.int .i64 ah) := (hr1.cell (p := ⟨w.heap.size, 2, none⟩) (by go_size)).trans (by simp [go_sem])
    have c1x1o0 : w1.cell? ⟨w.heap.size + 1, 0, none⟩ = some (.bool b) := (hr1.cell (p := ⟨w.heap.size + 1, 0, none⟩) (by go_size)).trans (by simp [go_sem])
    have c1x1o1 : w1.cell? ⟨w.heap.size + 1, 1, none⟩ = some (.int .i64 bl) := (hr1.cell (p := ⟨w.heap.size + 1, 1, none⟩) (by go_size)).trans (by simp [go_sem])
    have c1x1o2 : w1.cell? ⟨w.heap.size + 1, 2, none⟩ = some (.int .i64 bh) := (hr1.cell (p := ⟨w.heap.size + 1, 2, none⟩) (by go_size)).trans (by simp [go_sem])
    have c1x2o0 : w1.cell? ⟨w.heap.size + 1 + 1, 0, none⟩ = some (.bool false) := (hr1.cell (p := ⟨w.heap.size + 1 + 1, 0, none⟩) (by go_size)).trans (by simp [go_sem])
    have f1x2o0 : w1.frozen? ⟨w.heap.size + 1 + 1, 0, none⟩ = false := (hr1.frozen (p := ⟨w.heap.size + 1 + 1, 0, none⟩) (by go_size)).trans (by simp [go_sem])
    have c1x2o1 : w1.cell? ⟨w.heap.size + 1 + 1, 1, none⟩ = some (.int .i64 0) := (hr1.cell (p := ⟨w.heap.size + 1 + 1, 1, none⟩) (by go_size)).trans (by simp [go_sem])
    have f1x2o1 : w1.frozen? ⟨w.heap.size + 1 + 1, 1, none⟩ = false := (hr1.frozen (p := ⟨w.heap.size + 1 + 1, 1, none⟩) (by go_size)).trans (by simp [go_sem])
    have c1x2o2 : w1.cell? ⟨w.heap.size + 1 + 1, 2, none⟩ = some (.int .i64 0) := (hr1.cell (p := ⟨w.heap.size + 1 + 1, 2, none⟩) (by go_size)).trans (by simp [go_sem])
    have f1x2o2 : w1.frozen? ⟨w.heap.size + 1 + 1, 2, none⟩ = false := (hr1.frozen (p := ⟨w.heap.size + 1 + 1, 2, none⟩) (by go_size)).trans (by simp [go_sem])
    have n1x0 : w.heap.size < w1.heap.size := by omega
    have n1x1 : w.heap.size + 1 < w1.heap.size := by omega
    have n1x2 : w.heap.size + 1 + 1 < w1.heap.size := by omega
    clear hr1 hb1
    simp only [ho1]
    go_wp2
    refine bodyPost_ret (v := .agg #[.bool false, .int .i64 0, .int .i64 0]) (by simp [results, Tryz.results68, go_sem, n1x0, n1x1, n1x2, c1x0o0, c1x0o1, c1x0o2, c1x1o0, c1x1o1, c1x1o2, c1x2o0, c1x2o1, c1x2o2]) rfl ⟨RetSp.mk (by simp [joinF, ho1, noSp]), ?_⟩
    go_grown
  · cases ho2 : okF b bl bh
    · go_enter Tryz.func68, Tryz.ntmps68
      go_wp2_with fail
      refine (ok_impl _ _ _ _).mono ?_
      rintro e w1 ⟨rfl, hr1⟩
      have hb1 : Below w.heap.size w w1 := ((((Below.refl _ _).alloc (by go_size) _).alloc (by go_size) _).alloc (by go_size) _).trans (hr1.mono (by go_size))
      have hz1 : w.heap.size + 3 ≤ w1.heap.size := by have := hr1.size; first | omega | (simp at this; omega)
      have hB1 : Below w.heap.size w w1 := hb1
      have c1x0o0 : w1.cell? ⟨w.heap.size, 0, none⟩ = some (.bool a) := (hr1.cell (p := ⟨w.heap.size, 0, none⟩) (by go_size)).trans (by simp [go_sem])
      have c1x0o1 : w1.cell? ⟨w.heap.size, 1, none⟩ = some (.int .i64 al) := (hr1.cell (p := ⟨w.heap.size, 1, none⟩) (by go_size)).trans (by simp [go_sem])
      have c1x0o2 : w1.cell? ⟨w.heap.size, 2, none⟩ = some (.int .i64 ah) := (hr1.cell (p := ⟨w.heap.size, 2, none⟩) (by go_size)).trans (by simp [go_sem])
      have c1x1o0 : w1.cell? ⟨w.heap.size + 1, 0, none⟩ = some (.bool b) := (hr1.cell (p := ⟨w.heap.size + 1, 0, none⟩) (by go_size)).trans (by simp [go_sem])
      have c1x1o1 : w1.cell? ⟨w.heap.size + 1, 1, none⟩ = some (.int .i64 bl) := (hr1.cell (p := ⟨w.heap.size + 1, 1, none⟩) (by go_size)).trans (by simp [go_sem])
      have c1x1o2 : w1.cell? ⟨w.heap.size + 1, 2, none⟩ = some (.int .i64 bh) := (hr1.cell (p := ⟨w.heap.size + 1, 2, none⟩) (by go_size)).trans (by simp [go_sem])
      have c1x2o0 : w1.cell? ⟨w.heap.size + 1 + 1, 0, none⟩ = some (.bool false) := (hr1.cell (p := ⟨w.heap.size + 1 + 1, 0, none⟩) (by go_size)).trans (by simp [go_sem])
      have f1x2o0 : w1.frozen? ⟨w.heap.size + 1 + 1, 0, none⟩ = false := (hr1.frozen (p := ⟨w.heap.size + 1 + 1, 0, none⟩) (by go_size)).trans (by simp [go_sem])
      have c1x2o1 : w1.cell? ⟨w.heap.size + 1 + 1, 1, none⟩ = some (.int .i64 0) := (hr1.cell (p := ⟨w.heap.size + 1 + 1, 1, none⟩) (by go_size)).trans (by simp [go_sem])
      have f1x2o1 : w1.frozen? ⟨w.heap.size + 1 + 1, 1, none⟩ = false := (hr1.frozen (p := ⟨w.heap.size + 1 + 1, 1, none⟩) (by go_size)).trans (by simp [go_sem])
      have c1x2o2 : w1.cell? ⟨w.heap.size + 1 + 1, 2, none⟩ = some (.int .i64 0) := (hr1.cell (p := ⟨w.heap.size + 1 + 1, 2, none⟩) (by go_size)).trans (by simp [go_sem])
      have f1x2o2 : w1.frozen? ⟨w.heap.size + 1 + 1, 2, none⟩ = false := (hr1.frozen (p := ⟨w.heap.size + 1 + 1, 2, none⟩) (by go_size)).trans (by simp [go_sem])
      have n1x0 : w.heap.size < w1.heap.size := by omega
      have n1x1 : w.heap.size + 1 < w1.heap.size := by omega
      have n1x2 : w.heap.size + 1 + 1 < w1.heap.size := by omega
      clear hr1 hb1
      simp only [ho1]
      go_wp2_with fail
      refine (ok_impl _ _ _ _).mono ?_
      rintro e w2 ⟨rfl, hr2⟩
      have hb2 : Below w1.heap.size w1 w2 := (Below.refl _ _).trans (hr2.mono (by go_size))
      have hz2 : w1.heap.size + 0 ≤ w2.heap.size := by have := hr2.size; first | omega | (simp at this; omega)
      have hB2 : Below w.heap.size w w2 := hB1.trans (hb2.mono (by go_size))
      have c2x0o0 : w2.cell? ⟨w.heap.size, 0, none⟩ = some (.bool a) := (hb2.cell (p := ⟨w.heap.size, 0, none⟩) (by go_size)).trans c1x0o0
      have c2x0o1 : w2.cell? ⟨w.heap.size, 1, none⟩ = some (.int .i64 al) := (hb2.cell (p := ⟨w.heap.size, 1, none⟩) (by go_size)).trans c1x0o1
      have c2x0o2 : w2.cell? ⟨w.heap.size, 2, none⟩ = some (.int .i64 ah) := (hb2.cell (p := ⟨w.heap.size, 2, none⟩) (by go_size)).trans c1x0o2
      have c2x1o0 : w2.cell? ⟨w.heap.size + 1, 0, none⟩ = some (.bool b) := (hb2.cell (p := ⟨w.heap.size + 1, 0, none⟩) (by go_size)).trans c1x1o0
      have c2x1o1 : w2.cell? ⟨w.heap.size + 1, 1, none⟩ = some (.int .i64 bl) := (hb2.cell (p := ⟨w.heap.size + 1, 1, none⟩) (by go_size)).trans c1x1o1
      have c2x1o2 : w2.cell? ⟨w.heap.size + 1, 2, none⟩ = some (.int .i64 bh) := (hb2.cell (p := ⟨w.heap.size + 1, 2, none⟩) (by go_size)).trans c1x1o2
      have c2x2o0 : w2.cell? ⟨w.heap.size + 1 + 1, 0, none⟩ = some (.bool false) := (hb2.cell (p := ⟨w.heap.size + 1 + 1, 0, none⟩) (by go_size)).trans c1x2o0
      have f2x2o0 : w2.frozen? ⟨w.heap.size + 1 + 1, 0, none⟩ = false := (hb2.frozen (p := ⟨w.heap.size + 1 + 1, 0, none⟩) (by go_size)).trans f1x2o0
      have c2x2o1 : w2.cell? ⟨w.heap.size + 1 + 1, 1, none⟩ = some (.int .i64 0) := (hb2.cell (p := ⟨w.heap.size + 1 + 1, 1, none⟩) (by go_size)).trans c1x2o1
      have f2x2o1 : w2.frozen? ⟨w.heap.size + 1 + 1, 1, none⟩ = false := (hb2.frozen (p := ⟨w.heap.size + 1 + 1, 1, none⟩) (by go_size)).trans f1x2o1
      have c2x2o2 : w2.cell? ⟨w.heap.size + 1 + 1, 2, none⟩ = some (.int .i64 0) := (hb2.cell (p := ⟨w.heap.size + 1 + 1, 2, none⟩) (by go_size)).trans c1x2o2
      have f2x2o2 : w2.frozen? ⟨w.heap.size + 1 + 1, 2, none⟩ = false := (hb2.frozen (p := ⟨w.heap.size + 1 + 1, 2, none⟩) (by go_size)).trans f1x2o2
      have n2x0 : w.heap.size < w2.heap.size := by omega
      have n2x1 : w.heap.size + 1 < w2.heap.size := by omega
      have n2x2 : w.heap.size + 1 + 1 < w2.heap.size := by omega
      clear n1x0 n1x1 n1x2 c1x0o0 c1x0o1 c1x0o2 c1x1o0 c1x1o1 c1x1o2 c1x2o0 c1x2o1 c1x2o2 f1x2o0 f1x2o1 f1x2o2
      clear hr2 hb2
      simp only [ho2]
      go_wp2
      refine bodyPost_ret (v := .agg #[.bool false, .int .i64 0, .int .i64 0]) (by simp [results, Tryz.results68, go_sem, n2x0, n2x1, n2x2, c2x0o0, c2x0o1, c2x0o2, c2x1o0, c2x1o1, c2x1o2, c2x2o0, c2x2o1, c2x2o2]) rfl ⟨RetSp.mk (by simp [joinF, ho1, ho2, noSp]), ?_⟩
      go_grown
    · cases b
      · go_enter Tryz.func68, Tryz.ntmps68
        go_wp2_with fail
        refine (ok_impl _ _ _ _).mono ?_
        rintro e w1 ⟨rfl, hr1⟩
        have hb1 : Below w.heap.size w w1 := ((((Below.refl _ _).alloc (by go_size) _).alloc (by go_size) _).alloc (by go_size) _).trans (hr1.mono (by go_size))
        have hz1 : w.heap.size + 3 ≤ w1.heap.size := by have := hr1.size; first | omega | (simp at this; omega)
        have hB1 : Below w.heap.size w w1 := hb1
        have c1x0o0 : w1.cell? ⟨w.heap.size, 0, none⟩ = some (.bool a) := (hr1.cell (p := ⟨w.heap.size, 0, none⟩) (by go_size)).trans (by simp [go_sem])
        have c1x0o1 : w1.cell? ⟨w.heap.size, 1, none⟩ = some (.int .i64 al) := (hr1.cell (p := ⟨w.heap.size, 1, none⟩) (by go_size)).trans (by simp [go_sem])
        have c1x0o2 : w1.cell? ⟨w.heap.size, 2, none⟩ = some (.int .i64 ah) := (hr1.cell (p := ⟨w.heap.size, 2, none⟩) (by go_size)).trans (by simp [go_sem])
        have c1x1o0 : w1.cell? ⟨w.heap.size + 1, 0, none⟩ = some (.bool false) := (hr1.cell (p := ⟨w.heap.size + 1, 0, none⟩) (by go_size)).trans (by simp [go_sem])
        have c1x1o1 : w1.cell? ⟨w.heap.size + 1, 1, none⟩ = some (.int .i64 bl) := (hr1.cell (p := ⟨w.heap.size + 1, 1, none⟩) (by go_size)).trans (by simp [go_sem])
        have c1x1o2 : w1.cell? ⟨w.heap.size + 1, 2, none⟩ = some (.int .i64 bh) := (hr1.cell (p := ⟨w.heap.size + 1, 2, none⟩) (by go_size)).trans (by simp [go_sem])
        have c1x2o0 : w1.cell? ⟨w.heap.size + 1 + 1, 0, none⟩ = some (.bool false) := (hr1.cell (p := ⟨w.heap.size + 1 + 1, 0, none⟩) (by go_size)).trans (by simp [go_sem])
        have f1x2o0 : w1.frozen? ⟨w.heap.size + 1 + 1, 0, none⟩ = false := (hr1.frozen (p := ⟨w.heap.size + 1 + 1, 0, none⟩) (by go_size)).trans (by simp [go_sem])
        have c1x2o1 : w1.cell? ⟨w.heap.size + 1 + 1, 1, none⟩ = some (.int .i64 0) := (hr1.cell (p := ⟨w.heap.size + 1 + 1, 1, none⟩) (by go_size)).trans (by simp [go_sem])
        have f1x2o1 : w1.frozen? ⟨w.heap.size + 1 + 1, 1, none⟩ = false := (hr1.frozen (p := ⟨w.heap.size + 1 + 1, 1, none⟩) (by go_size)).trans (by simp [go_sem])
        have c1x2o2 : w1.cell? ⟨w.heap.size + 1 + 1, 2, none⟩ = some (.int .i64 0) := (hr1.cell (p := ⟨w.heap.size + 1 + 1, 2, none⟩) (by go_size)).trans (by simp [go_sem])
        have f1x2o2 : w1.frozen? ⟨w.heap.size + 1 + 1, 2, none⟩ = false := (hr1.frozen (p := ⟨w.heap.size + 1 + 1, 2, none⟩) (by go_size)).trans (by simp [go_sem])
        have n1x0 : w.heap.size < w1.heap.size := by omega
        have n1x1 : w.heap.size + 1 < w1.heap.size := by omega
        have n1x2 : w.heap.size + 1 + 1 < w1.heap.size := by omega
        clear hr1 hb1
        simp only [ho1]
        go_wp2_with fail
        refine (ok_impl _ _ _ _).mono ?_
        rintro e w2 ⟨rfl, hr2⟩
        have hb2 : Below w1.heap.size w1 w2 := (Below.refl _ _).trans (hr2.mono (by go_size))
        have hz2 : w1.heap.size + 0 ≤ w2.heap.size := by have := hr2.size; first | omega | (simp at this; omega)
        have hB2 : Below w.heap.size w w2 := hB1.trans (hb2.mono (by go_size))
        have c2x0o0 : w2.cell? ⟨w.heap.size, 0, none⟩ = some (.bool a) := (hb2.cell (p := ⟨w.heap.size, 0, none⟩) (by go_size)).trans c1x0o0
        have c2x0o1 : w2.cell? ⟨w.heap.size, 1, none⟩ = some (.int .i64 al) := (hb2.cell (p := ⟨w.heap.size, 1, none⟩) (by go_size)).trans c1x0o1
        have c2x0o2 : w2.cell? ⟨w.heap.size, 2, none⟩ = some (.int .i64 ah) := (hb2.cell (p := ⟨w.heap.size, 2, none⟩) (by go_size)).trans c1x0o2
        have c2x1o0 : w2.cell? ⟨w.heap.size + 1, 0, none⟩ = some (.bool false) := (hb2.cell (p := ⟨w.heap.size + 1, 0, none⟩) (by go_size)).trans c1x1o0
        have c2x1o1 : w2.cell? ⟨w.heap.size + 1, 1, none⟩ = some (.int .i64 bl) := (hb2.cell (p := ⟨w.heap.size + 1, 1, none⟩) (by go_size)).trans c1x1o1
        have c2x1o2 : w2.cell? ⟨w.heap.size + 1, 2, none⟩ = some (.int .i64 bh) := (hb2.cell (p := ⟨w.heap.size + 1, 2, none⟩) (by go_size)).trans c1x1o2
        have c2x2o0 : w2.cell? ⟨w.heap.size + 1 + 1, 0, none⟩ = some (.bool false) := (hb2.cell (p := ⟨w.heap.size + 1 + 1, 0, none⟩) (by go_size)).trans c1x2o0
        have f2x2o0 : w2.frozen? ⟨w.heap.size + 1 + 1, 0, none⟩ = false := (hb2.frozen (p := ⟨w.heap.size + 1 + 1, 0, none⟩) (by go_size)).trans f1x2o0
        have c2x2o1 : w2.cell? ⟨w.heap.size + 1 + 1, 1, none⟩ = some (.int .i64 0) := (hb2.cell (p := ⟨w.heap.size + 1 + 1, 1, none⟩) (by go_size)).trans c1x2o1
        have f2x2o1 : w2.frozen? ⟨w.heap.size + 1 + 1, 1, none⟩ = false := (hb2.frozen (p := ⟨w.heap.size + 1 + 1, 1, none⟩) (by go_size)).trans f1x2o1
        have c2x2o2 : w2.cell? ⟨w.heap.size + 1 + 1, 2, none⟩ = some (.int .i64 0) := (hb2.cell (p := ⟨w.heap.size + 1 + 1, 2, none⟩) (by go_size)).trans c1x2o2
        have f2x2o2 : w2.frozen? ⟨w.heap.size + 1 + 1, 2, none⟩ = false := (hb2.frozen (p := ⟨w.heap.size + 1 + 1, 2, none⟩) (by go_size)).trans f1x2o2
        have n2x0 : w.heap.size < w2.heap.size := by omega
        have n2x1 : w.heap.size + 1 < w2.heap.size := by omega
        have n2x2 : w.heap.size + 1 + 1 < w2.heap.size := by omega
        clear n1x0 n1x1 n1x2 c1x0o0 c1x0o1 c1x0o2 c1x1o0 c1x1o1 c1x1o2 c1x2o0 c1x2o1 c1x2o2 f1x2o0 f1x2o1 f1x2o2
        clear hr2 hb2
        simp only [ho2]
        go_wp2
        refine bodyPost_ret (v := .agg #[.bool a, .int .i64 al, .int .i64 ah]) (by simp [results, Tryz.results68, go_sem, n2x0, n2x1, n2x2, c2x0o0, c2x0o1, c2x0o2, c2x1o0, c2x1o1, c2x1o2, c2x2o0, c2x2o1, c2x2o2]) rfl ⟨RetSp.mk (join_none_r a al ah bl bh ho1 ho2), ?_⟩
        go_grown
      · have hbd := (okF_bd ho2).2.2.2.2
        go_enter Tryz.func68, Tryz.ntmps68
        go_wp2_with fail
        refine (ok_impl _ _ _ _).mono ?_
        rintro e w1 ⟨rfl, hr1⟩
        have hb1 : Below w.heap.size w w1 := ((((Below.refl _ _).alloc (by go_size) _).alloc (by go_size) _).alloc (by go_size) _).trans (hr1.mono (by go_size))
        have hz1 : w.heap.size + 3 ≤ w1.heap.size := by have := hr1.size; first | omega | (simp at this; omega)
        have hB1 : Below w.heap.size w w1 := hb1
        have c1x0o0 : w1.cell? ⟨w.heap.size, 0, none⟩ = some (.bool a) := (hr1.cell (p := ⟨w.heap.size, 0, none⟩) (by go_size)).trans (by simp [go_sem])
        have c1x0o1 : w1.cell? ⟨w.heap.size, 1, none⟩ = some (.int .i64 al) := (hr1.cell (p := ⟨w.heap.size, 1, none⟩) (by go_size)).trans (by simp [go_sem])
        have c1x0o2 : w1.cell? ⟨w.heap.size, 2, none⟩ = some (.int .i64 ah) := (hr1.cell (p := ⟨w.heap.size, 2, none⟩) (by go_size)).trans (by simp [go_sem])
        have c1x1o0 : w1.cell? ⟨w.heap.size + 1, 0, none⟩ = some (.bool true) := (hr1.cell (p := ⟨w.heap.size + 1, 0, none⟩) (by go_size)).trans (by simp [go_sem])
        have c1x1o1 : w1.cell? ⟨w.heap.size + 1, 1, none⟩ = some (.int .i64 bl) := (hr1.cell (p := ⟨w.heap.size + 1, 1, none⟩) (by go_size)).trans (by simp [go_sem])
        have c1x1o2 : w1.cell? ⟨w.heap.size + 1, 2, none⟩ = some (.int .i64 bh) := (hr1.cell (p := ⟨w.heap.size + 1, 2, none⟩) (by go_size)).trans (by simp [go_sem])
        have c1x2o0 : w1.cell? ⟨w.heap.size + 1 + 1, 0, none⟩ = some (.bool false) := (hr1.cell (p := ⟨w.heap.size + 1 + 1, 0, none⟩) (by go_size)).trans (by simp [go_sem])
        have f1x2o0 : w1.frozen? ⟨w.heap.size + 1 + 1, 0, none⟩ = false := (hr1.frozen (p := ⟨w.heap.size + 1 + 1, 0, none⟩) (by go_size)).trans (by simp [go_sem])
        have c1x2o1 : w1.cell? ⟨w.heap.size + 1 + 1, 1, none⟩ = some (.int .i64 0) := (hr1.cell (p := ⟨w.heap.size + 1 + 1, 1, none⟩) (by go_size)).trans (by simp [go_sem])
        have f1x2o1 : w1.frozen? ⟨w.heap.size + 1 + 1, 1, none⟩ = false := (hr1.frozen (p := ⟨w.heap.size + 1 + 1, 1, none⟩) (by go_size)).trans (by simp [go_sem])
        have c1x2o2 : w1.cell? ⟨w.heap.size + 1 + 1, 2, none⟩ = some (.int .i64 0) := (hr1.cell (p := ⟨w.heap.size + 1 + 1, 2, none⟩) (by go_size)).trans (by simp [go_sem])
        have f1x2o2 : w1.frozen? ⟨w.heap.size + 1 + 1, 2, none⟩ = false := (hr1.frozen (p := ⟨w.heap.size + 1 + 1, 2, none⟩) (by go_size)).trans (by simp [go_sem])
        have n1x0 : w.heap.size < w1.heap.size := by omega
        have n1x1 : w.heap.size + 1 < w1.heap.size := by omega
        have n1x2 : w.heap.size + 1 + 1 < w1.heap.size := by omega
        clear hr1 hb1
        simp only [ho1]
        go_wp2_with fail
        refine (ok_impl _ _ _ _).mono ?_
        rintro e w2 ⟨rfl, hr2⟩
        have hb2 : Below w1.heap.size w1 w2 := (Below.refl _ _).trans (hr2.mono (by go_size))
        have hz2 : w1.heap.size + 0 ≤ w2.heap.size := by have := hr2.size; first | omega | (simp at this; omega)
        have hB2 : Below w.heap.size w w2 := hB1.trans (hb2.mono (by go_size))
        have c2x0o0 : w2.cell? ⟨w.heap.size, 0, none⟩ = some (.bool a) := (hb2.cell (p := ⟨w.heap.size, 0, none⟩) (by go_size)).trans c1x0o0
        have c2x0o1 : w2.cell? ⟨w.heap.size, 1, none⟩ = some (.int .i64 al) := (hb2.cell (p := ⟨w.heap.size, 1, none⟩) (by go_size)).trans c1x0o1
        have c2x0o2 : w2.cell? ⟨w.heap.size, 2, none⟩ = some (.int .i64 ah) := (hb2.cell (p := ⟨w.heap.size, 2, none⟩) (by go_size)).trans c1x0o2
        have c2x1o0 : w2.cell? ⟨w.heap.size + 1, 0, none⟩ = some (.bool true) := (hb2.cell (p := ⟨w.heap.size + 1, 0, none⟩) (by go_size)).trans c1x1o0
        have c2x1o1 : w2.cell? ⟨w.heap.size + 1, 1, none⟩ = some (.int .i64 bl) := (hb2.cell (p := ⟨w.heap.size + 1, 1, none⟩) (by go_size)).trans c1x1o1
        have c2x1o2 : w2.cell? ⟨w.heap.size + 1, 2, none⟩ = some (.int .i64 bh) := (hb2.cell (p := ⟨w.heap.size + 1, 2, none⟩) (by go_size)).trans c1x1o2
        have c2x2o0 : w2.cell? ⟨w.heap.size + 1 + 1, 0, none⟩ = some (.bool false) := (hb2.cell (p := ⟨w.heap.size + 1 + 1, 0, none⟩) (by go_size)).trans c1x2o0
        have f2x2o0 : w2.frozen? ⟨w.heap.size + 1 + 1, 0, none⟩ = false := (hb2.frozen (p := ⟨w.heap.size + 1 + 1, 0, none⟩) (by go_size)).trans f1x2o0
        have c2x2o1 : w2.cell? ⟨w.heap.size + 1 + 1, 1, none⟩ = some (.int .i64 0) := (hb2.cell (p := ⟨w.heap.size + 1 + 1, 1, none⟩) (by go_size)).trans c1x2o1
        have f2x2o1 : w2.frozen? ⟨w.heap.size + 1 + 1, 1, none⟩ = false := (hb2.frozen (p := ⟨w.heap.size + 1 + 1, 1, none⟩) (by go_size)).trans f1x2o1
        have c2x2o2 : w2.cell? ⟨w.heap.size + 1 + 1, 2, none⟩ = some (.int .i64 0) := (hb2.cell (p := ⟨w.heap.size + 1 + 1, 2, none⟩) (by go_size)).trans c1x2o2
        have f2x2o2 : w2.frozen? ⟨w.heap.size + 1 + 1, 2, none⟩ = false := (hb2.frozen (p := ⟨w.heap.size + 1 + 1, 2, none⟩) (by go_size)).trans f1x2o2
        have n2x0 : w.heap.size < w2.heap.size := by omega
        have n2x1 : w.heap.size + 1 < w2.heap.size := by omega
        have n2x2 : w.heap.size + 1 + 1 < w2.heap.size := by omega
        clear n1x0 n1x1 n1x2 c1x0o0 c1x0o1 c1x0o2 c1x1o0 c1x1o1 c1x1o2 c1x2o0 c1x2o1 c1x2o2 f1x2o0 f1x2o1 f1x2o2
        clear hr2 hb2
        simp only [ho2]
        go_wp2_with fail
        refine (stretch2 _ _ _ bl bh _ _ hbd (by simp) (by simp) (by simp)).mono ?_
        rintro e w3 ⟨hs3, hr3⟩
        obtain ⟨a3, l3, u3, hx3, rfl⟩ := hs3.out
        clear hs3
        have hb3 : Below w2.heap.size w2 w3 := ((Below.refl _ _).alloc (by go_size) _).trans (hr3.mono (by go_size))
        have hz3 : w2.heap.size + 1 ≤ w3.heap.size := by have := hr3.size; first | omega | (simp at this; omega)
        have hB3 : Below w.heap.size w w3 := hB2.trans (hb3.mono (by go_size))
        have c3x0o0 : w3.cell? ⟨w.heap.size, 0, none⟩ = some (.bool a) := (hb3.cell (p := ⟨w.heap.size, 0, none⟩) (by go_size)).trans c2x0o0
        have c3x0o1 : w3.cell? ⟨w.heap.size, 1, none⟩ = some (.int .i64 al) := (hb3.cell (p := ⟨w.heap.size, 1, none⟩) (by go_size)).trans c2x0o1
        have c3x0o2 : w3.cell? ⟨w.heap.size, 2, none⟩ = some (.int .i64 ah) := (hb3.cell (p := ⟨w.heap.size, 2, none⟩) (by go_size)).trans c2x0o2
        have c3x1o0 : w3.cell? ⟨w.heap.size + 1, 0, none⟩ = some (.bool true) := (hb3.cell (p := ⟨w.heap.size + 1, 0, none⟩) (by go_size)).trans c2x1o0
        have c3x1o1 : w3.cell? ⟨w.heap.size + 1, 1, none⟩ = some (.int .i64 bl) := (hb3.cell (p := ⟨w.heap.size + 1, 1, none⟩) (by go_size)).trans c2x1o1
        have c3x1o2 : w3.cell? ⟨w.heap.size + 1, 2, none⟩ = some (.int .i64 bh) := (hb3.cell (p := ⟨w.heap.size + 1, 2, none⟩) (by go_size)).trans c2x1o2
        have c3x2o0 : w3.cell? ⟨w.heap.size + 1 + 1, 0, none⟩ = some (.bool false) := (hb3.cell (p := ⟨w.heap.size + 1 + 1, 0, none⟩) (by go_size)).trans c2x2o0
        have f3x2o0 : w3.frozen? ⟨w.heap.size + 1 + 1, 0, none⟩ = false := (hb3.frozen (p := ⟨w.heap.size + 1 + 1, 0, none⟩) (by go_size)).trans f2x2o0
        have c3x2o1 : w3.cell? ⟨w.heap.size + 1 + 1, 1, none⟩ = some (.int .i64 0) := (hb3.cell (p := ⟨w.heap.size + 1 + 1, 1, none⟩) (by go_size)).trans c2x2o1
        have f3x2o1 : w3.frozen? ⟨w.heap.size + 1 + 1, 1, none⟩ = false := (hb3.frozen (p := ⟨w.heap.size + 1 + 1, 1, none⟩) (by go_size)).trans f2x2o1
        have c3x2o2 : w3.cell? ⟨w.heap.size + 1 + 1, 2, none⟩ = some (.int .i64 0) := (hb3.cell (p := ⟨w.heap.size + 1 + 1, 2, none⟩) (by go_size)).trans c2x2o2
        have f3x2o2 : w3.frozen? ⟨w.heap.size + 1 + 1, 2, none⟩ = false := (hb3.frozen (p := ⟨w.heap.size + 1 + 1, 2, none⟩) (by go_size)).trans f2x2o2
        have n3x0 : w.heap.size < w3.heap.size := by omega
        have n3x1 : w.heap.size + 1 < w3.heap.size := by omega
        have n3x2 : w.heap.size + 1 + 1 < w3.heap.size := by omega
        clear n2x0 n2x1 n2x2 c2x0o0 c2x0o1 c2x0o2 c2x1o0 c2x1o1 c2x1o2 c2x2o0 c2x2o1 c2x2o2 f2x2o0 f2x2o1 f2x2o2
        clear hr3 hb3
        go_wp2
        refine bodyPost_ret (v := .agg #[.bool a3, .int .i64 l3, .int .i64 u3]) (by simp [results, Tryz.results68, go_sem, n3x0, n3x1, n3x2, c3x0o0, c3x0o1, c3x0o2, c3x1o0, c3x1o1, c3x1o2, c3x2o0, c3x2o1, c3x2o2]) rfl ⟨RetSp.mk ((join_ends a al ah bl bh ho1 ho2).trans hx3), ?_⟩
        go_grown

end Go.Proofs.YtlkebkajdlgebaaGreat
