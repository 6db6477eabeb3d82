import Derived.Test.YtlkebkajdlgebaaGreatB16
import Derived.Test.YtlkebkajdlgebaaGreatB10
import Derived.Test.YtlkebkajdlgebaaGreatB4
/-
  Whether a frame is ok: the contract of the model's l3FrameOk.
-/
namespace Go.Proofs.YtlkebkajdlgebaaGreat
open Go.RowKit
set_option linter.unusedVariables false
set_option linter.unusedSimpArgs false

end Go.Proofs.YtlkebkajdlgebaaGreat

/-
  Whether a site is ok: the contracts of siteOk and l3SiteOk.
-/
namespace Go.Proofs.YtlkebkajdlgebaaGreat
open Go.RowKit
set_option linter.unusedVariables false
set_option linter.unusedSimpArgs false

theorem eqb (a b : Int) (h : ¬ a = 0) : (a == b) = (!decide (a = 0) && decide (b = a)) := by
  by_cases h6 : a = b
  · subst h6; simp [h]
  · have h7 : ¬ b = a := fun e => h6 e.symm
    simp [h, h6, h7]

set_option maxRecDepth 100000 in
set_option maxHeartbeats 8000000 in
theorem siteOk_any (x0 : World) (B : Nat) (v : Value) (P : List (List I4)) (h : ProgAt x0 B v P) (hok : progOkF P = true) (s : Int × Int × Int) :
    Calls Tryz.prog 105 #[v, .agg #[.int .i64 s.1, .int .i64 s.2.1, .int .i64 s.2.2]] x0 fun e y => e = .returned (.bool (siteOkF P s)) ∧ Below x0.heap.size x0 y := by
  obtain ⟨n0, n1, n2⟩ := s
  obtain ⟨p, cap, rfl, _⟩ := h.shape
  have H : Hid (ProgAt x0 B (.slice p P.length cap) P) := h
  have hl := progOkF_len hok
  have HOK : Hid (progOkF P = true) := hok
  have hn4 : (P.length : Int) ≤ 4 := by omega
  have hn1 : 1 ≤ (P.length : Int) := by omega
  have HFr : Hid (siteOkF P (n0, n1, n2) = (inI n0 0 (P.length - 1) && inI n1 0 ((P.getD n0.toNat []).length - 1) && !decide (n2 = 0) && decide (faultF ((P.getD n0.toNat []).getD n1.toNat i0) = n2))) := rfl
  generalize hFF : siteOkF P (n0, n1, n2) = FF at HFr
  clear hFF h hok hl
  dsimp only
  have HAl : Hid (Below x0.heap.size x0 (x0.alloc (.cells #[.int .i64 n0, .int .i64 n1, .int .i64 n2] 94))) := (Below.refl _ _).alloc (Nat.le_refl _) _
  by_cases h1 : n0 < 0
  · generalize P.length = pn at *
    go_enter Tryz.func105, Tryz.ntmps105
    go_wp2_with fail
    go_quiet (fail)
    go_wp2_with fail
    go_ret
    exact ⟨retBool (by rw [HFr.out, show inI n0 0 (pn - 1) = false by simp [inI]; omega]; rfl), HAl.out.trans ((belowN _ _).mono HAl.out.size)⟩
  · have h1' : decide (n0 < 0) = false := decide_eq_false h1
    by_cases h2 : n0 ≥ (P.length : Int)
    · generalize P.length = pn at *
      go_enter Tryz.func105, Tryz.ntmps105
      go_wp2_with fail
      go_quiet (fail)
      go_wp2_with fail
      go_ret
      exact ⟨retBool (by rw [HFr.out, show inI n0 0 (pn - 1) = false by simp [inI]; omega]; rfl), HAl.out.trans ((belowN _ _).mono HAl.out.size)⟩
    · obtain ⟨k, rfl⟩ : ∃ k : Nat, n0 = k := ⟨n0.toNat, by omega⟩
      have hk' : k < P.length := by omega
      have hcode := progOkF_code HOK.out hk'
      obtain ⟨g, o, uu, rfl, hg, hu, hc⟩ := H.out.code hk'
      obtain ⟨pk, ck, rfl, _⟩ := hc.shape
      have HFr2 : Hid (FF = (inI n1 0 ((P.getD k []).length - 1) && !decide (n2 = 0) && decide (faultF ((P.getD k []).getD n1.toNat i0) = n2))) := by
        show FF = _
        rw [HFr.out, show inI (k : Int) 0 (P.length - 1) = true by simp [inI]; omega]; simp
      have HP4 : Hid (P.length ≤ 4) := by show _ ≤ _; omega
      have HCO : Hid ((P.getD k []).length ≤ 8 ∧ ∀ j, j < (P.getD k []).length → insOkF ((P.getD k []).getD j i0) (P.getD k []).length P.length = true) := hcode
      have h2' : decide ((k : Int) ≥ (P.length : Int)) = false := decide_eq_false h2
      have hki : (k : Int) < (P.length : Int) := by omega
      have hc8i : ((P.getD k []).length : Int) ≤ 8 := by have := hcode.1; omega
      have hg1 : g < x0.heap.size + 1 := by omega
      clear HFr hc hcode
      have K00 : Hid (BxN (x0.alloc (.cells #[.int .i64 k, .int .i64 n1, .int .i64 n2] 94)) x0.heap.size [.int .i64 k, .int .i64 n1, .int .i64 n2]) := BxN.new x0 [_, _, _] _
      by_cases h3 : n1 < 0
      · clear HCO
        generalize hcl : (P.getD k []).length = cl at *
        generalize hpn : P.length = pn at *
        clear hcl hpn
        go_enter Tryz.func105, Tryz.ntmps105
        go_wp2_with fail
        generalize x0.alloc (.cells #[.int .i64 k, .int .i64 n1, .int .i64 n2] 94) = X at HAl K00 ⊢
        refine wp_region_vals (by kernel_rfl) (by kernel_rfl) (by kernel_rfl) (by kernel_rfl) (fun j => [.pointer (some ⟨x0.heap.size, 0, none⟩), .int .i64 k, .bool false, .bool false, .pointer (some ⟨x0.heap.size, 0, none⟩), .int .i64 k, .slice (some ⟨g, o, none⟩) pn cap, .int .i64 pn, .bool false, .bool false, .bool false, .pointer (some ⟨x0.heap.size, 1, none⟩), .int .i64 n1, .bool true, .bool true, .bool true, undef, undef, undef, undef, undef, undef, undef, undef, undef, undef, .bool true].getD j undef) X (Below.drew (Below.refl _ _)) ?step ⟨#[.slice (some ⟨g, o, none⟩) pn cap, .agg #[.int .i64 k, .int .i64 n1, .int .i64 n2], undef, .pointer (some ⟨x0.heap.size, 0, none⟩), .bool false, .pointer (some ⟨x0.heap.size, 0, none⟩), .int .i64 k, .bool false, .bool false, .pointer (some ⟨x0.heap.size, 0, none⟩), .int .i64 k, .slice (some ⟨g, o, none⟩) pn cap, .int .i64 pn, .bool false, .bool false, .bool false, .pointer (some ⟨x0.heap.size, 1, none⟩), .int .i64 n1, .bool true, .bool true, .bool true, undef, undef, undef, undef, undef, undef, undef, undef, undef, undef, .bool true, undef, undef, undef, undef, undef, undef, undef, undef, undef, undef, undef, undef, undef, undef, undef], []⟩ (by kernel_rfl) ?fin
        case step =>
          intro i o ho ρ y x hBx hdep hout
          rcases i with _ | i
          · obtain rfl := Option.some.inj ho
            have o3 : ρ (.tmp 3) = .pointer (some ⟨x0.heap.size, 0, none⟩) := hout (.tmp 3) rfl
            clear hdep hout
            refine .inl ⟨rfl, (Gives.val ?_ : Gives _ _ _ (.pointer (some ⟨x0.heap.size, 0, none⟩)) _)⟩
            go_simp
          rcases i with _ | i
          · obtain rfl := Option.some.inj ho
            have e0 : ρ (.tmp 5) = .pointer (some ⟨x0.heap.size, 0, none⟩) := (hdep ⟨0, .data⟩ (by simp) rfl).1 5 rfl
            clear hdep hout
            have kb := K00.out.later hBx
            have c0 := kb.c 0 _ rfl
            have c1 := kb.c 1 _ rfl
            have c2 := kb.c 2 _ rfl
            have cl0 := kb.lt
            refine .inl ⟨rfl, (Gives.val ?_ : Gives _ _ _ (.int .i64 k) _)⟩
            go_simp
          rcases i with _ | i
          · obtain rfl := Option.some.inj ho
            have e1 : ρ (.tmp 6) = .int .i64 k := (hdep ⟨1, .data⟩ (by simp) rfl).1 6 rfl
            have ocn : ∀ v, ρ (.const v) = v := fun v => hout (.const v) rfl
            clear hdep hout
            refine .inl ⟨rfl, (Gives.val ?_ : Gives _ _ _ (.bool false) _)⟩
            go_simp
          rcases i with _ | i
          · obtain rfl := Option.some.inj ho
            have e2 : ρ (.tmp 7) = .bool false := (hdep ⟨2, .data⟩ (by simp) rfl).1 7 rfl
            clear hdep hout
            refine .inl ⟨rfl, (Gives.val ?_ : Gives _ _ _ (.bool false) _)⟩
            go_simp
          rcases i with _ | i
          · obtain rfl := Option.some.inj ho
            have o3 : ρ (.tmp 3) = .pointer (some ⟨x0.heap.size, 0, none⟩) := hout (.tmp 3) rfl
            have yg : y 3 = some false := (hdep ⟨3, .guard⟩ (by simp) rfl).2 8 rfl
            clear hdep hout
            refine .inl ⟨(by show (y 3 == some false) = true; rw [yg]; rfl), (Gives.val ?_ : Gives _ _ _ (.pointer (some ⟨x0.heap.size, 0, none⟩)) _)⟩
            go_simp
          rcases i with _ | i
          · obtain rfl := Option.some.inj ho
            have e4 : ρ (.tmp 9) = .pointer (some ⟨x0.heap.size, 0, none⟩) := (hdep ⟨4, .data⟩ (by simp) rfl).1 9 rfl
            have yg : y 3 = some false := (hdep ⟨3, .guard⟩ (by simp) rfl).2 8 rfl
            clear hdep hout
            have kb := K00.out.later hBx
            have c0 := kb.c 0 _ rfl
            have c1 := kb.c 1 _ rfl
            have c2 := kb.c 2 _ rfl
            have cl0 := kb.lt
            refine .inl ⟨(by show (y 3 == some false) = true; rw [yg]; rfl), (Gives.val ?_ : Gives _ _ _ (.int .i64 k) _)⟩
            go_simp
          rcases i with _ | i
          · obtain rfl := Option.some.inj ho
            have o0 : ρ (.tmp 0) = .slice (some ⟨g, o, none⟩) pn cap := hout (.tmp 0) rfl
            have yg : y 3 = some false := (hdep ⟨3, .guard⟩ (by simp) rfl).2 8 rfl
            clear hdep hout
            refine .inl ⟨(by show (y 3 == some false) = true; rw [yg]; rfl), (Gives.val ?_ : Gives _ _ _ (.slice (some ⟨g, o, none⟩) pn cap) _)⟩
            go_simp
          rcases i with _ | i
          · obtain rfl := Option.some.inj ho
            have e6 : ρ (.tmp 11) = .slice (some ⟨g, o, none⟩) pn cap := (hdep ⟨6, .data⟩ (by simp) rfl).1 11 rfl
            have yg : y 3 = some false := (hdep ⟨3, .guard⟩ (by simp) rfl).2 8 rfl
            clear hdep hout
            refine .inl ⟨(by show (y 3 == some false) = true; rw [yg]; rfl), (Gives.val ?_ : Gives _ _ _ (.int .i64 pn) _)⟩
            go_simp
          rcases i with _ | i
          · obtain rfl := Option.some.inj ho
            have e5 : ρ (.tmp 10) = .int .i64 k := (hdep ⟨5, .data⟩ (by simp) rfl).1 10 rfl
            have e7 : ρ (.tmp 12) = .int .i64 pn := (hdep ⟨7, .data⟩ (by simp) rfl).1 12 rfl
            have yg : y 3 = some false := (hdep ⟨3, .guard⟩ (by simp) rfl).2 8 rfl
            clear hdep hout
            refine .inl ⟨(by show (y 3 == some false) = true; rw [yg]; rfl), (Gives.val ?_ : Gives _ _ _ (.bool false) _)⟩
            go_simp
          rcases i with _ | i
          · obtain rfl := Option.some.inj ho
            have e3 : ρ (.tmp 8) = .bool false := (hdep ⟨3, .data⟩ (by simp) rfl).1 8 rfl
            have e8 : ρ (.tmp 13) = .bool false := (hdep ⟨8, .data⟩ (by simp) rfl).1 13 rfl
            have ocn : ∀ v, ρ (.const v) = v := fun v => hout (.const v) rfl
            clear hdep hout
            refine .inl ⟨rfl, (Gives.val ?_ : Gives _ _ _ (.bool false) _)⟩
            go_simp
          rcases i with _ | i
          · obtain rfl := Option.some.inj ho
            have e9 : ρ (.tmp 14) = .bool false := (hdep ⟨9, .data⟩ (by simp) rfl).1 14 rfl
            clear hdep hout
            refine .inl ⟨rfl, (Gives.val ?_ : Gives _ _ _ (.bool false) _)⟩
            go_simp
          rcases i with _ | i
          · obtain rfl := Option.some.inj ho
            have o3 : ρ (.tmp 3) = .pointer (some ⟨x0.heap.size, 0, none⟩) := hout (.tmp 3) rfl
            have yg : y 10 = some false := (hdep ⟨10, .guard⟩ (by simp) rfl).2 15 rfl
            clear hdep hout
            refine .inl ⟨(by show (y 10 == some false) = true; rw [yg]; rfl), (Gives.val ?_ : Gives _ _ _ (.pointer (some ⟨x0.heap.size, 1, none⟩)) _)⟩
            go_simp
          rcases i with _ | i
          · obtain rfl := Option.some.inj ho
            have e11 : ρ (.tmp 16) = .pointer (some ⟨x0.heap.size, 1, none⟩) := (hdep ⟨11, .data⟩ (by simp) rfl).1 16 rfl
            have yg : y 10 = some false := (hdep ⟨10, .guard⟩ (by simp) rfl).2 15 rfl
            clear hdep hout
            have kb := K00.out.later hBx
            have c0 := kb.c 0 _ rfl
            have c1 := kb.c 1 _ rfl
            have c2 := kb.c 2 _ rfl
            have cl0 := kb.lt
            refine .inl ⟨(by show (y 10 == some false) = true; rw [yg]; rfl), (Gives.val ?_ : Gives _ _ _ (.int .i64 n1) _)⟩
            go_simp
          rcases i with _ | i
          · obtain rfl := Option.some.inj ho
            have e12 : ρ (.tmp 17) = .int .i64 n1 := (hdep ⟨12, .data⟩ (by simp) rfl).1 17 rfl
            have yg : y 10 = some false := (hdep ⟨10, .guard⟩ (by simp) rfl).2 15 rfl
            have ocn : ∀ v, ρ (.const v) = v := fun v => hout (.const v) rfl
            clear hdep hout
            refine .inl ⟨(by show (y 10 == some false) = true; rw [yg]; rfl), (Gives.val ?_ : Gives _ _ _ (.bool true) _)⟩
            go_simp
          rcases i with _ | i
          · obtain rfl := Option.some.inj ho
            have e10 : ρ (.tmp 15) = .bool false := (hdep ⟨10, .data⟩ (by simp) rfl).1 15 rfl
            have e13 : ρ (.tmp 18) = .bool true := (hdep ⟨13, .data⟩ (by simp) rfl).1 18 rfl
            have ocn : ∀ v, ρ (.const v) = v := fun v => hout (.const v) rfl
            clear hdep hout
            refine .inl ⟨rfl, (Gives.val ?_ : Gives _ _ _ (.bool true) _)⟩
            go_simp
          rcases i with _ | i
          · obtain rfl := Option.some.inj ho
            have e14 : ρ (.tmp 19) = .bool true := (hdep ⟨14, .data⟩ (by simp) rfl).1 19 rfl
            clear hdep hout
            refine .inl ⟨rfl, (Gives.val ?_ : Gives _ _ _ (.bool true) _)⟩
            go_simp
          rcases i with _ | i
          · obtain rfl := Option.some.inj ho
            have yg : y 15 = some true := (hdep ⟨15, .guard⟩ (by simp) rfl).2 20 rfl
            exact .inr ⟨by show (y 15 == some false) = false; rw [yg]; rfl, rfl⟩
          rcases i with _ | i
          · obtain rfl := Option.some.inj ho
            have yg : y 15 = some true := (hdep ⟨15, .guard⟩ (by simp) rfl).2 20 rfl
            exact .inr ⟨by show (y 15 == some false) = false; rw [yg]; rfl, rfl⟩
          rcases i with _ | i
          · obtain rfl := Option.some.inj ho
            have yg : y 15 = some true := (hdep ⟨15, .guard⟩ (by simp) rfl).2 20 rfl
            exact .inr ⟨by show (y 15 == some false) = false; rw [yg]; rfl, rfl⟩
          rcases i with _ | i
          · obtain rfl := Option.some.inj ho
            have yg : y 15 = some true := (hdep ⟨15, .guard⟩ (by simp) rfl).2 20 rfl
            exact .inr ⟨by show (y 15 == some false) = false; rw [yg]; rfl, rfl⟩
          rcases i with _ | i
          · obtain rfl := Option.some.inj ho
            have yg : y 15 = some true := (hdep ⟨15, .guard⟩ (by simp) rfl).2 20 rfl
            exact .inr ⟨by show (y 15 == some false) = false; rw [yg]; rfl, rfl⟩
          rcases i with _ | i
          · obtain rfl := Option.some.inj ho
            have yg : y 15 = some true := (hdep ⟨15, .guard⟩ (by simp) rfl).2 20 rfl
            exact .inr ⟨by show (y 15 == some false) = false; rw [yg]; rfl, rfl⟩
          rcases i with _ | i
          · obtain rfl := Option.some.inj ho
            have yg : y 15 = some true := (hdep ⟨15, .guard⟩ (by simp) rfl).2 20 rfl
            exact .inr ⟨by show (y 15 == some false) = false; rw [yg]; rfl, rfl⟩
          rcases i with _ | i
          · obtain rfl := Option.some.inj ho
            have yg : y 15 = some true := (hdep ⟨15, .guard⟩ (by simp) rfl).2 20 rfl
            exact .inr ⟨by show (y 15 == some false) = false; rw [yg]; rfl, rfl⟩
          rcases i with _ | i
          · obtain rfl := Option.some.inj ho
            have yg : y 15 = some true := (hdep ⟨15, .guard⟩ (by simp) rfl).2 20 rfl
            exact .inr ⟨by show (y 15 == some false) = false; rw [yg]; rfl, rfl⟩
          rcases i with _ | i
          · obtain rfl := Option.some.inj ho
            have yg : y 15 = some true := (hdep ⟨15, .guard⟩ (by simp) rfl).2 20 rfl
            exact .inr ⟨by show (y 15 == some false) = false; rw [yg]; rfl, rfl⟩
          rcases i with _ | i
          · obtain rfl := Option.some.inj ho
            have e15 : ρ (.tmp 20) = .bool true := (hdep ⟨15, .data⟩ (by simp) rfl).1 20 rfl
            have e25 : ρ (.tmp 30) = undef := (hdep ⟨25, .data⟩ (by simp) rfl).1 30 rfl
            have ocn : ∀ v, ρ (.const v) = v := fun v => hout (.const v) rfl
            clear hdep hout
            refine .inl ⟨rfl, (Gives.val ?_ : Gives _ _ _ (.bool true) _)⟩
            go_simp
          cases ho
        case fin =>
          intro x hBx
          have hBf := HAl.out.trans (hBx.mono HAl.out.size)
          go_wp2_with fail
          go_ret
          exact ⟨retBool (by rw [HFr2.out, show inI n1 0 (cl - 1) = false by simp [inI]; omega]; rfl), hBf⟩
      · have h3' : decide (n1 < 0) = false := decide_eq_false h3
        by_cases h4 : n1 ≥ ((P.getD k []).length : Int)
        · clear HCO
          generalize hcl : (P.getD k []).length = cl at *
          generalize hpn : P.length = pn at *
          clear hcl hpn
          go_enter Tryz.func105, Tryz.ntmps105
          go_wp2_with fail
          generalize x0.alloc (.cells #[.int .i64 k, .int .i64 n1, .int .i64 n2] 94) = X at HAl K00 ⊢
          refine wp_region_vals (by kernel_rfl) (by kernel_rfl) (by kernel_rfl) (by kernel_rfl) (fun j => [.pointer (some ⟨x0.heap.size, 0, none⟩), .int .i64 k, .bool false, .bool false, .pointer (some ⟨x0.heap.size, 0, none⟩), .int .i64 k, .slice (some ⟨g, o, none⟩) pn cap, .int .i64 pn, .bool false, .bool false, .bool false, .pointer (some ⟨x0.heap.size, 1, none⟩), .int .i64 n1, .bool false, .bool false, .bool false, .pointer (some ⟨x0.heap.size, 1, none⟩), .int .i64 n1, .slice (some ⟨g, o, none⟩) pn cap, .pointer (some ⟨x0.heap.size, 0, none⟩), .int .i64 k, .pointer (some ⟨g, o + k, none⟩), .pointer (some ⟨g, o + k, none⟩), .slice pk cl ck, .int .i64 cl, .bool true, .bool true].getD j undef) X (Below.drew (Below.refl _ _)) ?step ⟨#[.slice (some ⟨g, o, none⟩) pn cap, .agg #[.int .i64 k, .int .i64 n1, .int .i64 n2], undef, .pointer (some ⟨x0.heap.size, 0, none⟩), .bool false, .pointer (some ⟨x0.heap.size, 0, none⟩), .int .i64 k, .bool false, .bool false, .pointer (some ⟨x0.heap.size, 0, none⟩), .int .i64 k, .slice (some ⟨g, o, none⟩) pn cap, .int .i64 pn, .bool false, .bool false, .bool false, .pointer (some ⟨x0.heap.size, 1, none⟩), .int .i64 n1, .bool false, .bool false, .bool false, .pointer (some ⟨x0.heap.size, 1, none⟩), .int .i64 n1, .slice (some ⟨g, o, none⟩) pn cap, .pointer (some ⟨x0.heap.size, 0, none⟩), .int .i64 k, .pointer (some ⟨g, o + k, none⟩), .pointer (some ⟨g, o + k, none⟩), .slice pk cl ck, .int .i64 cl, .bool true, .bool true, undef, undef, undef, undef, undef, undef, undef, undef, undef, undef, undef, undef, undef, undef, undef], []⟩ (by kernel_rfl) ?fin
          case step =>
            intro i o ho ρ y x hBx hdep hout
            rcases i with _ | i
            · obtain rfl := Option.some.inj ho
              have o3 : ρ (.tmp 3) = .pointer (some ⟨x0.heap.size, 0, none⟩) := hout (.tmp 3) rfl
              clear hdep hout
              refine .inl ⟨rfl, (Gives.val ?_ : Gives _ _ _ (.pointer (some ⟨x0.heap.size, 0, none⟩)) _)⟩
              go_simp
            rcases i with _ | i
            · obtain rfl := Option.some.inj ho
              have e0 : ρ (.tmp 5) = .pointer (some ⟨x0.heap.size, 0, none⟩) := (hdep ⟨0, .data⟩ (by simp) rfl).1 5 rfl
              clear hdep hout
              have kb := K00.out.later hBx
              have c0 := kb.c 0 _ rfl
              have c1 := kb.c 1 _ rfl
              have c2 := kb.c 2 _ rfl
              have cl0 := kb.lt
              refine .inl ⟨rfl, (Gives.val ?_ : Gives _ _ _ (.int .i64 k) _)⟩
              go_simp
            rcases i with _ | i
            · obtain rfl := Option.some.inj ho
              have e1 : ρ (.tmp 6) = .int .i64 k := (hdep ⟨1, .data⟩ (by simp) rfl).1 6 rfl
              have ocn : ∀ v, ρ (.const v) = v := fun v => hout (.const v) rfl
              clear hdep hout
              refine .inl ⟨rfl, (Gives.val ?_ : Gives _ _ _ (.bool false) _)⟩
              go_simp
            rcases i with _ | i
            · obtain rfl := Option.some.inj ho
              have e2 : ρ (.tmp 7) = .bool false := (hdep ⟨2, .data⟩ (by simp) rfl).1 7 rfl
              clear hdep hout
              refine .inl ⟨rfl, (Gives.val ?_ : Gives _ _ _ (.bool false) _)⟩
              go_simp
            rcases i with _ | i
            · obtain rfl := Option.some.inj ho
              have o3 : ρ (.tmp 3) = .pointer (some ⟨x0.heap.size, 0, none⟩) := hout (.tmp 3) rfl
              have yg : y 3 = some false := (hdep ⟨3, .guard⟩ (by simp) rfl).2 8 rfl
              clear hdep hout
              refine .inl ⟨(by show (y 3 == some false) = true; rw [yg]; rfl), (Gives.val ?_ : Gives _ _ _ (.pointer (some ⟨x0.heap.size, 0, none⟩)) _)⟩
              go_simp
            rcases i with _ | i
            · obtain rfl := Option.some.inj ho
              have e4 : ρ (.tmp 9) = .pointer (some ⟨x0.heap.size, 0, none⟩) := (hdep ⟨4, .data⟩ (by simp) rfl).1 9 rfl
              have yg : y 3 = some false := (hdep ⟨3, .guard⟩ (by simp) rfl).2 8 rfl
              clear hdep hout
              have kb := K00.out.later hBx
              have c0 := kb.c 0 _ rfl
              have c1 := kb.c 1 _ rfl
              have c2 := kb.c 2 _ rfl
              have cl0 := kb.lt
              refine .inl ⟨(by show (y 3 == some false) = true; rw [yg]; rfl), (Gives.val ?_ : Gives _ _ _ (.int .i64 k) _)⟩
              go_simp
            rcases i with _ | i
            · obtain rfl := Option.some.inj ho
              have o0 : ρ (.tmp 0) = .slice (some ⟨g, o, none⟩) pn cap := hout (.tmp 0) rfl
              have yg : y 3 = some false := (hdep ⟨3, .guard⟩ (by simp) rfl).2 8 rfl
              clear hdep hout
              refine .inl ⟨(by show (y 3 == some false) = true; rw [yg]; rfl), (Gives.val ?_ : Gives _ _ _ (.slice (some ⟨g, o, none⟩) pn cap) _)⟩
              go_simp
            rcases i with _ | i
            · obtain rfl := Option.some.inj ho
              have e6 : ρ (.tmp 11) = .slice (some ⟨g, o, none⟩) pn cap := (hdep ⟨6, .data⟩ (by simp) rfl).1 11 rfl
              have yg : y 3 = some false := (hdep ⟨3, .guard⟩ (by simp) rfl).2 8 rfl
              clear hdep hout
              refine .inl ⟨(by show (y 3 == some false) = true; rw [yg]; rfl), (Gives.val ?_ : Gives _ _ _ (.int .i64 pn) _)⟩
              go_simp
            rcases i with _ | i
            · obtain rfl := Option.some.inj ho
              have e5 : ρ (.tmp 10) = .int .i64 k := (hdep ⟨5, .data⟩ (by simp) rfl).1 10 rfl
              have e7 : ρ (.tmp 12) = .int .i64 pn := (hdep ⟨7, .data⟩ (by simp) rfl).1 12 rfl
              have yg : y 3 = some false := (hdep ⟨3, .guard⟩ (by simp) rfl).2 8 rfl
              clear hdep hout
              refine .inl ⟨(by show (y 3 == some false) = true; rw [yg]; rfl), (Gives.val ?_ : Gives _ _ _ (.bool false) _)⟩
              go_simp
            rcases i with _ | i
            · obtain rfl := Option.some.inj ho
              have e3 : ρ (.tmp 8) = .bool false := (hdep ⟨3, .data⟩ (by simp) rfl).1 8 rfl
              have e8 : ρ (.tmp 13) = .bool false := (hdep ⟨8, .data⟩ (by simp) rfl).1 13 rfl
              have ocn : ∀ v, ρ (.const v) = v := fun v => hout (.const v) rfl
              clear hdep hout
              refine .inl ⟨rfl, (Gives.val ?_ : Gives _ _ _ (.bool false) _)⟩
              go_simp
            rcases i with _ | i
            · obtain rfl := Option.some.inj ho
              have e9 : ρ (.tmp 14) = .bool false := (hdep ⟨9, .data⟩ (by simp) rfl).1 14 rfl
              clear hdep hout
              refine .inl ⟨rfl, (Gives.val ?_ : Gives _ _ _ (.bool false) _)⟩
              go_simp
            rcases i with _ | i
            · obtain rfl := Option.some.inj ho
              have o3 : ρ (.tmp 3) = .pointer (some ⟨x0.heap.size, 0, none⟩) := hout (.tmp 3) rfl
              have yg : y 10 = some false := (hdep ⟨10, .guard⟩ (by simp) rfl).2 15 rfl
              clear hdep hout
              refine .inl ⟨(by show (y 10 == some false) = true; rw [yg]; rfl), (Gives.val ?_ : Gives _ _ _ (.pointer (some ⟨x0.heap.size, 1, none⟩)) _)⟩
              go_simp
            rcases i with _ | i
            · obtain rfl := Option.some.inj ho
              have e11 : ρ (.tmp 16) = .pointer (some ⟨x0.heap.size, 1, none⟩) := (hdep ⟨11, .data⟩ (by simp) rfl).1 16 rfl
              have yg : y 10 = some false := (hdep ⟨10, .guard⟩ (by simp) rfl).2 15 rfl
              clear hdep hout
              have kb := K00.out.later hBx
              have c0 := kb.c 0 _ rfl
              have c1 := kb.c 1 _ rfl
              have c2 := kb.c 2 _ rfl
              have cl0 := kb.lt
              refine .inl ⟨(by show (y 10 == some false) = true; rw [yg]; rfl), (Gives.val ?_ : Gives _ _ _ (.int .i64 n1) _)⟩
              go_simp
            rcases i with _ | i
            · obtain rfl := Option.some.inj ho
              have e12 : ρ (.tmp 17) = .int .i64 n1 := (hdep ⟨12, .data⟩ (by simp) rfl).1 17 rfl
              have yg : y 10 = some false := (hdep ⟨10, .guard⟩ (by simp) rfl).2 15 rfl
              have ocn : ∀ v, ρ (.const v) = v := fun v => hout (.const v) rfl
              clear hdep hout
              refine .inl ⟨(by show (y 10 == some false) = true; rw [yg]; rfl), (Gives.val ?_ : Gives _ _ _ (.bool false) _)⟩
              go_simp
            rcases i with _ | i
            · obtain rfl := Option.some.inj ho
              have e10 : ρ (.tmp 15) = .bool false := (hdep ⟨10, .data⟩ (by simp) rfl).1 15 rfl
              have e13 : ρ (.tmp 18) = .bool false := (hdep ⟨13, .data⟩ (by simp) rfl).1 18 rfl
              have ocn : ∀ v, ρ (.const v) = v := fun v => hout (.const v) rfl
              clear hdep hout
              refine .inl ⟨rfl, (Gives.val ?_ : Gives _ _ _ (.bool false) _)⟩
              go_simp
            rcases i with _ | i
            · obtain rfl := Option.some.inj ho
              have e14 : ρ (.tmp 19) = .bool false := (hdep ⟨14, .data⟩ (by simp) rfl).1 19 rfl
              clear hdep hout
              refine .inl ⟨rfl, (Gives.val ?_ : Gives _ _ _ (.bool false) _)⟩
              go_simp
            rcases i with _ | i
            · obtain rfl := Option.some.inj ho
              have o3 : ρ (.tmp 3) = .pointer (some ⟨x0.heap.size, 0, none⟩) := hout (.tmp 3) rfl
              have yg : y 15 = some false := (hdep ⟨15, .guard⟩ (by simp) rfl).2 20 rfl
              clear hdep hout
              refine .inl ⟨(by show (y 15 == some false) = true; rw [yg]; rfl), (Gives.val ?_ : Gives _ _ _ (.pointer (some ⟨x0.heap.size, 1, none⟩)) _)⟩
              go_simp
            rcases i with _ | i
            · obtain rfl := Option.some.inj ho
              have e16 : ρ (.tmp 21) = .pointer (some ⟨x0.heap.size, 1, none⟩) := (hdep ⟨16, .data⟩ (by simp) rfl).1 21 rfl
              have yg : y 15 = some false := (hdep ⟨15, .guard⟩ (by simp) rfl).2 20 rfl
              clear hdep hout
              have kb := K00.out.later hBx
              have c0 := kb.c 0 _ rfl
              have c1 := kb.c 1 _ rfl
              have c2 := kb.c 2 _ rfl
              have cl0 := kb.lt
              refine .inl ⟨(by show (y 15 == some false) = true; rw [yg]; rfl), (Gives.val ?_ : Gives _ _ _ (.int .i64 n1) _)⟩
              go_simp
            rcases i with _ | i
            · obtain rfl := Option.some.inj ho
              have o0 : ρ (.tmp 0) = .slice (some ⟨g, o, none⟩) pn cap := hout (.tmp 0) rfl
              have yg : y 15 = some false := (hdep ⟨15, .guard⟩ (by simp) rfl).2 20 rfl
              clear hdep hout
              refine .inl ⟨(by show (y 15 == some false) = true; rw [yg]; rfl), (Gives.val ?_ : Gives _ _ _ (.slice (some ⟨g, o, none⟩) pn cap) _)⟩
              go_simp
            rcases i with _ | i
            · obtain rfl := Option.some.inj ho
              have o3 : ρ (.tmp 3) = .pointer (some ⟨x0.heap.size, 0, none⟩) := hout (.tmp 3) rfl
              have yg : y 15 = some false := (hdep ⟨15, .guard⟩ (by simp) rfl).2 20 rfl
              clear hdep hout
              refine .inl ⟨(by show (y 15 == some false) = true; rw [yg]; rfl), (Gives.val ?_ : Gives _ _ _ (.pointer (some ⟨x0.heap.size, 0, none⟩)) _)⟩
              go_simp
            rcases i with _ | i
            · obtain rfl := Option.some.inj ho
              have e19 : ρ (.tmp 24) = .pointer (some ⟨x0.heap.size, 0, none⟩) := (hdep ⟨19, .data⟩ (by simp) rfl).1 24 rfl
              have yg : y 15 = some false := (hdep ⟨15, .guard⟩ (by simp) rfl).2 20 rfl
              clear hdep hout
              have kb := K00.out.later hBx
              have c0 := kb.c 0 _ rfl
              have c1 := kb.c 1 _ rfl
              have c2 := kb.c 2 _ rfl
              have cl0 := kb.lt
              refine .inl ⟨(by show (y 15 == some false) = true; rw [yg]; rfl), (Gives.val ?_ : Gives _ _ _ (.int .i64 k) _)⟩
              go_simp
            rcases i with _ | i
            · obtain rfl := Option.some.inj ho
              have e18 : ρ (.tmp 23) = .slice (some ⟨g, o, none⟩) pn cap := (hdep ⟨18, .data⟩ (by simp) rfl).1 23 rfl
              have e20 : ρ (.tmp 25) = .int .i64 k := (hdep ⟨20, .data⟩ (by simp) rfl).1 25 rfl
              have yg : y 15 = some false := (hdep ⟨15, .guard⟩ (by simp) rfl).2 20 rfl
              clear hdep hout
              refine .inl ⟨(by show (y 15 == some false) = true; rw [yg]; rfl), (Gives.val ?_ : Gives _ _ _ (.pointer (some ⟨g, o + k, none⟩)) _)⟩
              go_simp
            rcases i with _ | i
            · obtain rfl := Option.some.inj ho
              have e21 : ρ (.tmp 26) = .pointer (some ⟨g, o + k, none⟩) := (hdep ⟨21, .data⟩ (by simp) rfl).1 26 rfl
              have yg : y 15 = some false := (hdep ⟨15, .guard⟩ (by simp) rfl).2 20 rfl
              clear hdep hout
              refine .inl ⟨(by show (y 15 == some false) = true; rw [yg]; rfl), (Gives.val ?_ : Gives _ _ _ (.pointer (some ⟨g, o + k, none⟩)) _)⟩
              go_simp
            rcases i with _ | i
            · obtain rfl := Option.some.inj ho
              have e22 : ρ (.tmp 27) = .pointer (some ⟨g, o + k, none⟩) := (hdep ⟨22, .data⟩ (by simp) rfl).1 27 rfl
              have yg : y 15 = some false := (hdep ⟨15, .guard⟩ (by simp) rfl).2 20 rfl
              clear hdep hout
              have hcu := ((HAl.out.trans (hBx.mono HAl.out.size)).cell (p := ⟨g, o + k, none⟩) hg).trans hu
              refine .inl ⟨(by show (y 15 == some false) = true; rw [yg]; rfl), (Gives.val ?_ : Gives _ _ _ (.slice pk cl ck) _)⟩
              go_simp
            rcases i with _ | i
            · obtain rfl := Option.some.inj ho
              have e23 : ρ (.tmp 28) = .slice pk cl ck := (hdep ⟨23, .data⟩ (by simp) rfl).1 28 rfl
              have yg : y 15 = some false := (hdep ⟨15, .guard⟩ (by simp) rfl).2 20 rfl
              clear hdep hout
              refine .inl ⟨(by show (y 15 == some false) = true; rw [yg]; rfl), (Gives.val ?_ : Gives _ _ _ (.int .i64 cl) _)⟩
              go_simp
            rcases i with _ | i
            · obtain rfl := Option.some.inj ho
              have e17 : ρ (.tmp 22) = .int .i64 n1 := (hdep ⟨17, .data⟩ (by simp) rfl).1 22 rfl
              have e24 : ρ (.tmp 29) = .int .i64 cl := (hdep ⟨24, .data⟩ (by simp) rfl).1 29 rfl
              have yg : y 15 = some false := (hdep ⟨15, .guard⟩ (by simp) rfl).2 20 rfl
              clear hdep hout
              refine .inl ⟨(by show (y 15 == some false) = true; rw [yg]; rfl), (Gives.val ?_ : Gives _ _ _ (.bool true) _)⟩
              go_simp
            rcases i with _ | i
            · obtain rfl := Option.some.inj ho
              have e15 : ρ (.tmp 20) = .bool false := (hdep ⟨15, .data⟩ (by simp) rfl).1 20 rfl
              have e25 : ρ (.tmp 30) = .bool true := (hdep ⟨25, .data⟩ (by simp) rfl).1 30 rfl
              have ocn : ∀ v, ρ (.const v) = v := fun v => hout (.const v) rfl
              clear hdep hout
              refine .inl ⟨rfl, (Gives.val ?_ : Gives _ _ _ (.bool true) _)⟩
              go_simp
            cases ho
          case fin =>
            intro x hBx
            have hBf := HAl.out.trans (hBx.mono HAl.out.size)
            go_wp2_with fail
            go_ret
            exact ⟨retBool (by rw [HFr2.out, show inI n1 0 (cl - 1) = false by simp [inI]; omega]; rfl), hBf⟩
        · have h4' : decide (n1 ≥ ((P.getD k []).length : Int)) = false := decide_eq_false h4
          obtain ⟨a, rfl⟩ : ∃ a : Nat, n1 = a := ⟨n1.toNat, by omega⟩
          have ha' : a < (P.getD k []).length := by omega
          have hins := HCO.out.2 a ha'
          have hkk := insOkF_kind hins
          have HFr3 : Hid (FF = (!decide (n2 = 0) && decide (faultF ((P.getD k []).getD a i0) = n2))) := by
            show FF = _
            rw [HFr2.out, show inI (a : Int) 0 ((P.getD k []).length - 1) = true by simp only [inI, Bool.and_eq_true, decide_eq_true_eq]; omega]; simp
          have HIA : Hid (∀ z : World, Below x0.heap.size x0 z → Calls Tryz.prog 123 #[.slice (some ⟨g, o, none⟩) P.length cap, .int .i64 k, .int .i64 a] z fun e y => e = .returned (ifcF ((P.getD k []).getD a i0)) ∧ Below z.heap.size z y) := fun z hz => by
            have := insAt_impl z B _ P (H.out.later hz) k a hk' HP4.out (Nat.le_of_lt ha') HCO.out.1
            rw [show insF (P.getD k []) a = ifcF ((P.getD k []).getD a i0) by simp only [insF]; rw [if_neg (Nat.ne_of_lt ha')]] at this
            exact this
          generalize (P.getD k []).getD a i0 = I at *
          have HFO : Hid (∀ z : World, Calls Tryz.prog 122 #[ifcF I] z fun e y => e = .returned (.int .i64 (faultF I)) ∧ Below z.heap.size z y) := fun z => faultOf_any I hkk.1 hkk.2.1 z
          generalize faultF I = FI at *
          generalize ifcF I = VI at *
          clear HCO HFr2 hins hkk HP4 H
          generalize hcl : (P.getD k []).length = cl at *
          generalize hpn : P.length = pn at *
          clear hcl hpn
          go_enter Tryz.func105, Tryz.ntmps105
          go_wp2_with fail
          generalize x0.alloc (.cells #[.int .i64 k, .int .i64 a, .int .i64 n2] 94) = X at HAl K00 ⊢
          refine wp_region_vals (by kernel_rfl) (by kernel_rfl) (by kernel_rfl) (by kernel_rfl) (fun j => [.pointer (some ⟨x0.heap.size, 0, none⟩), .int .i64 k, .bool false, .bool false, .pointer (some ⟨x0.heap.size, 0, none⟩), .int .i64 k, .slice (some ⟨g, o, none⟩) pn cap, .int .i64 pn, .bool false, .bool false, .bool false, .pointer (some ⟨x0.heap.size, 1, none⟩), .int .i64 a, .bool false, .bool false, .bool false, .pointer (some ⟨x0.heap.size, 1, none⟩), .int .i64 a, .slice (some ⟨g, o, none⟩) pn cap, .pointer (some ⟨x0.heap.size, 0, none⟩), .int .i64 k, .pointer (some ⟨g, o + k, none⟩), .pointer (some ⟨g, o + k, none⟩), .slice pk cl ck, .int .i64 cl, .bool false, .bool false].getD j undef) X (Below.drew (Below.refl _ _)) ?step ⟨#[.slice (some ⟨g, o, none⟩) pn cap, .agg #[.int .i64 k, .int .i64 a, .int .i64 n2], undef, .pointer (some ⟨x0.heap.size, 0, none⟩), .bool false, .pointer (some ⟨x0.heap.size, 0, none⟩), .int .i64 k, .bool false, .bool false, .pointer (some ⟨x0.heap.size, 0, none⟩), .int .i64 k, .slice (some ⟨g, o, none⟩) pn cap, .int .i64 pn, .bool false, .bool false, .bool false, .pointer (some ⟨x0.heap.size, 1, none⟩), .int .i64 a, .bool false, .bool false, .bool false, .pointer (some ⟨x0.heap.size, 1, none⟩), .int .i64 a, .slice (some ⟨g, o, none⟩) pn cap, .pointer (some ⟨x0.heap.size, 0, none⟩), .int .i64 k, .pointer (some ⟨g, o + k, none⟩), .pointer (some ⟨g, o + k, none⟩), .slice pk cl ck, .int .i64 cl, .bool false, .bool false, undef, undef, undef, undef, undef, undef, undef, undef, undef, undef, undef, undef, undef, undef, undef], []⟩ (by kernel_rfl) ?fin
          case step =>
            intro i o ho ρ y x hBx hdep hout
            rcases i with _ | i
            · obtain rfl := Option.some.inj ho
              have o3 : ρ (.tmp 3) = .pointer (some ⟨x0.heap.size, 0, none⟩) := hout (.tmp 3) rfl
              clear hdep hout
              refine .inl ⟨rfl, (Gives.val ?_ : Gives _ _ _ (.pointer (some ⟨x0.heap.size, 0, none⟩)) _)⟩
              go_simp
            rcases i with _ | i
            · obtain rfl := Option.some.inj ho
              have e0 : ρ (.tmp 5) = .pointer (some ⟨x0.heap.size, 0, none⟩) := (hdep ⟨0, .data⟩ (by simp) rfl).1 5 rfl
              clear hdep hout
              have kb := K00.out.later hBx
              have c0 := kb.c 0 _ rfl
              have c1 := kb.c 1 _ rfl
              have c2 := kb.c 2 _ rfl
              have cl0 := kb.lt
              refine .inl ⟨rfl, (Gives.val ?_ : Gives _ _ _ (.int .i64 k) _)⟩
              go_simp
            rcases i with _ | i
            · obtain rfl := Option.some.inj ho
              have e1 : ρ (.tmp 6) = .int .i64 k := (hdep ⟨1, .data⟩ (by simp) rfl).1 6 rfl
              have ocn : ∀ v, ρ (.const v) = v := fun v => hout (.const v) rfl
              clear hdep hout
              refine .inl ⟨rfl, (Gives.val ?_ : Gives _ _ _ (.bool false) _)⟩
              go_simp
            rcases i with _ | i
            · obtain rfl := Option.some.inj ho
              have e2 : ρ (.tmp 7) = .bool false := (hdep ⟨2, .data⟩ (by simp) rfl).1 7 rfl
              clear hdep hout
              refine .inl ⟨rfl, (Gives.val ?_ : Gives _ _ _ (.bool false) _)⟩
              go_simp
            rcases i with _ | i
            · obtain rfl := Option.some.inj ho
              have o3 : ρ (.tmp 3) = .pointer (some ⟨x0.heap.size, 0, none⟩) := hout (.tmp 3) rfl
              have yg : y 3 = some false := (hdep ⟨3, .guard⟩ (by simp) rfl).2 8 rfl
              clear hdep hout
              refine .inl ⟨(by show (y 3 == some false) = true; rw [yg]; rfl), (Gives.val ?_ : Gives _ _ _ (.pointer (some ⟨x0.heap.size, 0, none⟩)) _)⟩
              go_simp
            rcases i with _ | i
            · obtain rfl := Option.some.inj ho
              have e4 : ρ (.tmp 9) = .pointer (some ⟨x0.heap.size, 0, none⟩) := (hdep ⟨4, .data⟩ (by simp) rfl).1 9 rfl
              have yg : y 3 = some false := (hdep ⟨3, .guard⟩ (by simp) rfl).2 8 rfl
              clear hdep hout
              have kb := K00.out.later hBx
              have c0 := kb.c 0 _ rfl
              have c1 := kb.c 1 _ rfl
              have c2 := kb.c 2 _ rfl
              have cl0 := kb.lt
              refine .inl ⟨(by show (y 3 == some false) = true; rw [yg]; rfl), (Gives.val ?_ : Gives _ _ _ (.int .i64 k) _)⟩
              go_simp
            rcases i with _ | i
            · obtain rfl := Option.some.inj ho
              have o0 : ρ (.tmp 0) = .slice (some ⟨g, o, none⟩) pn cap := hout (.tmp 0) rfl
              have yg : y 3 = some false := (hdep ⟨3, .guard⟩ (by simp) rfl).2 8 rfl
              clear hdep hout
              refine .inl ⟨(by show (y 3 == some false) = true; rw [yg]; rfl), (Gives.val ?_ : Gives _ _ _ (.slice (some ⟨g, o, none⟩) pn cap) _)⟩
              go_simp
            rcases i with _ | i
            · obtain rfl := Option.some.inj ho
              have e6 : ρ (.tmp 11) = .slice (some ⟨g, o, none⟩) pn cap := (hdep ⟨6, .data⟩ (by simp) rfl).1 11 rfl
              have yg : y 3 = some false := (hdep ⟨3, .guard⟩ (by simp) rfl).2 8 rfl
              clear hdep hout
              refine .inl ⟨(by show (y 3 == some false) = true; rw [yg]; rfl), (Gives.val ?_ : Gives _ _ _ (.int .i64 pn) _)⟩
              go_simp
            rcases i with _ | i
            · obtain rfl := Option.some.inj ho
              have e5 : ρ (.tmp 10) = .int .i64 k := (hdep ⟨5, .data⟩ (by simp) rfl).1 10 rfl
              have e7 : ρ (.tmp 12) = .int .i64 pn := (hdep ⟨7, .data⟩ (by simp) rfl).1 12 rfl
              have yg : y 3 = some false := (hdep ⟨3, .guard⟩ (by simp) rfl).2 8 rfl
              clear hdep hout
              refine .inl ⟨(by show (y 3 == some false) = true; rw [yg]; rfl), (Gives.val ?_ : Gives _ _ _ (.bool false) _)⟩
              go_simp
            rcases i with _ | i
            · obtain rfl := Option.some.inj ho
              have e3 : ρ (.tmp 8) = .bool false := (hdep ⟨3, .data⟩ (by simp) rfl).1 8 rfl
              have e8 : ρ (.tmp 13) = .bool false := (hdep ⟨8, .data⟩ (by simp) rfl).1 13 rfl
              have ocn : ∀ v, ρ (.const v) = v := fun v => hout (.const v) rfl
              clear hdep hout
              refine .inl ⟨rfl, (Gives.val ?_ : Gives _ _ _ (.bool false) _)⟩
              go_simp
            rcases i with _ | i
            · obtain rfl := Option.some.inj ho
              have e9 : ρ (.tmp 14) = .bool false := (hdep ⟨9, .data⟩ (by simp) rfl).1 14 rfl
              clear hdep hout
              refine .inl ⟨rfl, (Gives.val ?_ : Gives _ _ _ (.bool false) _)⟩
              go_simp
            rcases i with _ | i
            · obtain rfl := Option.some.inj ho
              have o3 : ρ (.tmp 3) = .pointer (some ⟨x0.heap.size, 0, none⟩) := hout (.tmp 3) rfl
              have yg : y 10 = some false := (hdep ⟨10, .guard⟩ (by simp) rfl).2 15 rfl
              clear hdep hout
              refine .inl ⟨(by show (y 10 == some false) = true; rw [yg]; rfl), (Gives.val ?_ : Gives _ _ _ (.pointer (some ⟨x0.heap.size, 1, none⟩)) _)⟩
              go_simp
            rcases i with _ | i
            · obtain rfl := Option.some.inj ho
              have e11 : ρ (.tmp 16) = .pointer (some ⟨x0.heap.size, 1, none⟩) := (hdep ⟨11, .data⟩ (by simp) rfl).1 16 rfl
              have yg : y 10 = some false := (hdep ⟨10, .guard⟩ (by simp) rfl).2 15 rfl
              clear hdep hout
              have kb := K00.out.later hBx
              have c0 := kb.c 0 _ rfl
              have c1 := kb.c 1 _ rfl
              have c2 := kb.c 2 _ rfl
              have cl0 := kb.lt
              refine .inl ⟨(by show (y 10 == some false) = true; rw [yg]; rfl), (Gives.val ?_ : Gives _ _ _ (.int .i64 a) _)⟩
              go_simp
            rcases i with _ | i
            · obtain rfl := Option.some.inj ho
              have e12 : ρ (.tmp 17) = .int .i64 a := (hdep ⟨12, .data⟩ (by simp) rfl).1 17 rfl
              have yg : y 10 = some false := (hdep ⟨10, .guard⟩ (by simp) rfl).2 15 rfl
              have ocn : ∀ v, ρ (.const v) = v := fun v => hout (.const v) rfl
              clear hdep hout
              refine .inl ⟨(by show (y 10 == some false) = true; rw [yg]; rfl), (Gives.val ?_ : Gives _ _ _ (.bool false) _)⟩
              go_simp
            rcases i with _ | i
            · obtain rfl := Option.some.inj ho
              have e10 : ρ (.tmp 15) = .bool false := (hdep ⟨10, .data⟩ (by simp) rfl).1 15 rfl
              have e13 : ρ (.tmp 18) = .bool false := (hdep ⟨13, .data⟩ (by simp) rfl).1 18 rfl
              have ocn : ∀ v, ρ (.const v) = v := fun v => hout (.const v) rfl
              clear hdep hout
              refine .inl ⟨rfl, (Gives.val ?_ : Gives _ _ _ (.bool false) _)⟩
              go_simp
            rcases i with _ | i
            · obtain rfl := Option.some.inj ho
              have e14 : ρ (.tmp 19) = .bool false := (hdep ⟨14, .data⟩ (by simp) rfl).1 19 rfl
              clear hdep hout
              refine .inl ⟨rfl, (Gives.val ?_ : Gives _ _ _ (.bool false) _)⟩
              go_simp
            rcases i with _ | i
            · obtain rfl := Option.some.inj ho
              have o3 : ρ (.tmp 3) = .pointer (some ⟨x0.heap.size, 0, none⟩) := hout (.tmp 3) rfl
              have yg : y 15 = some false := (hdep ⟨15, .guard⟩ (by simp) rfl).2 20 rfl
              clear hdep hout
              refine .inl ⟨(by show (y 15 == some false) = true; rw [yg]; rfl), (Gives.val ?_ : Gives _ _ _ (.pointer (some ⟨x0.heap.size, 1, none⟩)) _)⟩
              go_simp
            rcases i with _ | i
            · obtain rfl := Option.some.inj ho
              have e16 : ρ (.tmp 21) = .pointer (some ⟨x0.heap.size, 1, none⟩) := (hdep ⟨16, .data⟩ (by simp) rfl).1 21 rfl
              have yg : y 15 = some false := (hdep ⟨15, .guard⟩ (by simp) rfl).2 20 rfl
              clear hdep hout
              have kb := K00.out.later hBx
              have c0 := kb.c 0 _ rfl
              have c1 := kb.c 1 _ rfl
              have c2 := kb.c 2 _ rfl
              have cl0 := kb.lt
              refine .inl ⟨(by show (y 15 == some false) = true; rw [yg]; rfl), (Gives.val ?_ : Gives _ _ _ (.int .i64 a) _)⟩
              go_simp
            rcases i with _ | i
            · obtain rfl := Option.some.inj ho
              have o0 : ρ (.tmp 0) = .slice (some ⟨g, o, none⟩) pn cap := hout (.tmp 0) rfl
              have yg : y 15 = some false := (hdep ⟨15, .guard⟩ (by simp) rfl).2 20 rfl
              clear hdep hout
              refine .inl ⟨(by show (y 15 == some false) = true; rw [yg]; rfl), (Gives.val ?_ : Gives _ _ _ (.slice (some ⟨g, o, none⟩) pn cap) _)⟩
              go_simp
            rcases i with _ | i
            · obtain rfl := Option.some.inj ho
              have o3 : ρ (.tmp 3) = .pointer (some ⟨x0.heap.size, 0, none⟩) := hout (.tmp 3) rfl
              have yg : y 15 = some false := (hdep ⟨15, .guard⟩ (by simp) rfl).2 20 rfl
              clear hdep hout
              refine .inl ⟨(by show (y 15 == some false) = true; rw [yg]; rfl), (Gives.val ?_ : Gives _ _ _ (.pointer (some ⟨x0.heap.size, 0, none⟩)) _)⟩
              go_simp
            rcases i with _ | i
            · obtain rfl := Option.some.inj ho
              have e19 : ρ (.tmp 24) = .pointer (some ⟨x0.heap.size, 0, none⟩) := (hdep ⟨19, .data⟩ (by simp) rfl).1 24 rfl
              have yg : y 15 = some false := (hdep ⟨15, .guard⟩ (by simp) rfl).2 20 rfl
              clear hdep hout
              have kb := K00.out.later hBx
              have c0 := kb.c 0 _ rfl
              have c1 := kb.c 1 _ rfl
              have c2 := kb.c 2 _ rfl
              have cl0 := kb.lt
              refine .inl ⟨(by show (y 15 == some false) = true; rw [yg]; rfl), (Gives.val ?_ : Gives _ _ _ (.int .i64 k) _)⟩
              go_simp
            rcases i with _ | i
            · obtain rfl := Option.some.inj ho
              have e18 : ρ (.tmp 23) = .slice (some ⟨g, o, none⟩) pn cap := (hdep ⟨18, .data⟩ (by simp) rfl).1 23 rfl
              have e20 : ρ (.tmp 25) = .int .i64 k := (hdep ⟨20, .data⟩ (by simp) rfl).1 25 rfl
              have yg : y 15 = some false := (hdep ⟨15, .guard⟩ (by simp) rfl).2 20 rfl
              clear hdep hout
              refine .inl ⟨(by show (y 15 == some false) = true; rw [yg]; rfl), (Gives.val ?_ : Gives _ _ _ (.pointer (some ⟨g, o + k, none⟩)) _)⟩
              go_simp
            rcases i with _ | i
            · obtain rfl := Option.some.inj ho
              have e21 : ρ (.tmp 26) = .pointer (some ⟨g, o + k, none⟩) := (hdep ⟨21, .data⟩ (by simp) rfl).1 26 rfl
              have yg : y 15 = some false := (hdep ⟨15, .guard⟩ (by simp) rfl).2 20 rfl
              clear hdep hout
              refine .inl ⟨(by show (y 15 == some false) = true; rw [yg]; rfl), (Gives.val ?_ : Gives _ _ _ (.pointer (some ⟨g, o + k, none⟩)) _)⟩
              go_simp
            rcases i with _ | i
            · obtain rfl := Option.some.inj ho
              have e22 : ρ (.tmp 27) = .pointer (some ⟨g, o + k, none⟩) := (hdep ⟨22, .data⟩ (by simp) rfl).1 27 rfl
              have yg : y 15 = some false := (hdep ⟨15, .guard⟩ (by simp) rfl).2 20 rfl
              clear hdep hout
              have hcu := ((HAl.out.trans (hBx.mono HAl.out.size)).cell (p := ⟨g, o + k, none⟩) hg).trans hu
              refine .inl ⟨(by show (y 15 == some false) = true; rw [yg]; rfl), (Gives.val ?_ : Gives _ _ _ (.slice pk cl ck) _)⟩
              go_simp
            rcases i with _ | i
            · obtain rfl := Option.some.inj ho
              have e23 : ρ (.tmp 28) = .slice pk cl ck := (hdep ⟨23, .data⟩ (by simp) rfl).1 28 rfl
              have yg : y 15 = some false := (hdep ⟨15, .guard⟩ (by simp) rfl).2 20 rfl
              clear hdep hout
              refine .inl ⟨(by show (y 15 == some false) = true; rw [yg]; rfl), (Gives.val ?_ : Gives _ _ _ (.int .i64 cl) _)⟩
              go_simp
            rcases i with _ | i
            · obtain rfl := Option.some.inj ho
              have e17 : ρ (.tmp 22) = .int .i64 a := (hdep ⟨17, .data⟩ (by simp) rfl).1 22 rfl
              have e24 : ρ (.tmp 29) = .int .i64 cl := (hdep ⟨24, .data⟩ (by simp) rfl).1 29 rfl
              have yg : y 15 = some false := (hdep ⟨15, .guard⟩ (by simp) rfl).2 20 rfl
              clear hdep hout
              refine .inl ⟨(by show (y 15 == some false) = true; rw [yg]; rfl), (Gives.val ?_ : Gives _ _ _ (.bool false) _)⟩
              go_simp
            rcases i with _ | i
            · obtain rfl := Option.some.inj ho
              have e15 : ρ (.tmp 20) = .bool false := (hdep ⟨15, .data⟩ (by simp) rfl).1 20 rfl
              have e25 : ρ (.tmp 30) = .bool false := (hdep ⟨25, .data⟩ (by simp) rfl).1 30 rfl
              have ocn : ∀ v, ρ (.const v) = v := fun v => hout (.const v) rfl
              clear hdep hout
              refine .inl ⟨rfl, (Gives.val ?_ : Gives _ _ _ (.bool false) _)⟩
              go_simp
            cases ho
          case fin =>
            intro z hBz
            have HZB : Hid (Below x0.heap.size x0 z) := HAl.out.trans (hBz.mono HAl.out.size)
            have K0 := K00.out.laterH hBz
            clear hBz K00 HAl
            by_cases h5 : n2 = 0
            · have h5n : (n2 != 0) = false := by simp [h5]
              go_wp2_with fail
              refine wp_region_vals (by kernel_rfl) (by kernel_rfl) (by kernel_rfl) (by kernel_rfl) (fun j => [.pointer (some ⟨x0.heap.size, 2, none⟩), .int .i64 n2, .bool false, .bool false, undef, undef, undef, undef, undef, undef, undef, undef, undef, undef, .bool false, .bool false].getD j undef) z (Below.drew (Below.refl _ _)) ?step ⟨#[.slice (some ⟨g, o, none⟩) pn cap, .agg #[.int .i64 k, .int .i64 a, .int .i64 n2], undef, .pointer (some ⟨x0.heap.size, 0, none⟩), .bool false, .pointer (some ⟨x0.heap.size, 0, none⟩), .int .i64 k, .bool false, .bool false, .pointer (some ⟨x0.heap.size, 0, none⟩), .int .i64 k, .slice (some ⟨g, o, none⟩) pn cap, .int .i64 pn, .bool false, .bool false, .bool false, .pointer (some ⟨x0.heap.size, 1, none⟩), .int .i64 a, .bool false, .bool false, .bool false, .pointer (some ⟨x0.heap.size, 1, none⟩), .int .i64 a, .slice (some ⟨g, o, none⟩) pn cap, .pointer (some ⟨x0.heap.size, 0, none⟩), .int .i64 k, .pointer (some ⟨g, o + k, none⟩), .pointer (some ⟨g, o + k, none⟩), .slice pk cl ck, .int .i64 cl, .bool false, .bool false, .pointer (some ⟨x0.heap.size, 2, none⟩), .int .i64 n2, .bool false, .bool false, undef, undef, undef, undef, undef, undef, undef, undef, undef, undef, .bool false], []⟩ (by kernel_rfl) ?fin
              case step =>
                intro i o ho ρ y x hBx hdep hout
                rcases i with _ | i
                · obtain rfl := Option.some.inj ho
                  have o3 : ρ (.tmp 3) = .pointer (some ⟨x0.heap.size, 0, none⟩) := hout (.tmp 3) rfl
                  clear hdep hout
                  refine .inl ⟨rfl, (Gives.val ?_ : Gives _ _ _ (.pointer (some ⟨x0.heap.size, 2, none⟩)) _)⟩
                  go_simp
                rcases i with _ | i
                · obtain rfl := Option.some.inj ho
                  have e0 : ρ (.tmp 32) = .pointer (some ⟨x0.heap.size, 2, none⟩) := (hdep ⟨0, .data⟩ (by simp) rfl).1 32 rfl
                  clear hdep hout
                  have kb := K0.out.later hBx
                  have c0 := kb.c 0 _ rfl
                  have c1 := kb.c 1 _ rfl
                  have c2 := kb.c 2 _ rfl
                  have cl0 := kb.lt
                  refine .inl ⟨rfl, (Gives.val ?_ : Gives _ _ _ (.int .i64 n2) _)⟩
                  go_simp
                rcases i with _ | i
                · obtain rfl := Option.some.inj ho
                  have e1 : ρ (.tmp 33) = .int .i64 n2 := (hdep ⟨1, .data⟩ (by simp) rfl).1 33 rfl
                  have ocn : ∀ v, ρ (.const v) = v := fun v => hout (.const v) rfl
                  clear hdep hout
                  refine .inl ⟨rfl, (Gives.val ?_ : Gives _ _ _ (.bool false) _)⟩
                  go_simp
                rcases i with _ | i
                · obtain rfl := Option.some.inj ho
                  have e2 : ρ (.tmp 34) = .bool false := (hdep ⟨2, .data⟩ (by simp) rfl).1 34 rfl
                  clear hdep hout
                  refine .inl ⟨rfl, (Gives.val ?_ : Gives _ _ _ (.bool false) _)⟩
                  go_simp
                rcases i with _ | i
                · obtain rfl := Option.some.inj ho
                  have yg : y 3 = some false := (hdep ⟨3, .guard⟩ (by simp) rfl).2 35 rfl
                  exact .inr ⟨by show (y 3 == some true) = false; rw [yg]; rfl, rfl⟩
                rcases i with _ | i
                · obtain rfl := Option.some.inj ho
                  have yg : y 3 = some false := (hdep ⟨3, .guard⟩ (by simp) rfl).2 35 rfl
                  exact .inr ⟨by show (y 3 == some true) = false; rw [yg]; rfl, rfl⟩
                rcases i with _ | i
                · obtain rfl := Option.some.inj ho
                  have yg : y 3 = some false := (hdep ⟨3, .guard⟩ (by simp) rfl).2 35 rfl
                  exact .inr ⟨by show (y 3 == some true) = false; rw [yg]; rfl, rfl⟩
                rcases i with _ | i
                · obtain rfl := Option.some.inj ho
                  have yg : y 3 = some false := (hdep ⟨3, .guard⟩ (by simp) rfl).2 35 rfl
                  exact .inr ⟨by show (y 3 == some true) = false; rw [yg]; rfl, rfl⟩
                rcases i with _ | i
                · obtain rfl := Option.some.inj ho
                  have yg : y 3 = some false := (hdep ⟨3, .guard⟩ (by simp) rfl).2 35 rfl
                  exact .inr ⟨by show (y 3 == some true) = false; rw [yg]; rfl, rfl⟩
                rcases i with _ | i
                · obtain rfl := Option.some.inj ho
                  have yg : y 3 = some false := (hdep ⟨3, .guard⟩ (by simp) rfl).2 35 rfl
                  exact .inr ⟨by show (y 3 == some true) = false; rw [yg]; rfl, rfl⟩
                rcases i with _ | i
                · obtain rfl := Option.some.inj ho
                  have yg : y 3 = some false := (hdep ⟨3, .guard⟩ (by simp) rfl).2 35 rfl
                  exact .inr ⟨by show (y 3 == some true) = false; rw [yg]; rfl, rfl⟩
                rcases i with _ | i
                · obtain rfl := Option.some.inj ho
                  have yg : y 3 = some false := (hdep ⟨3, .guard⟩ (by simp) rfl).2 35 rfl
                  exact .inr ⟨by show (y 3 == some true) = false; rw [yg]; rfl, rfl⟩
                rcases i with _ | i
                · obtain rfl := Option.some.inj ho
                  have yg : y 3 = some false := (hdep ⟨3, .guard⟩ (by simp) rfl).2 35 rfl
                  exact .inr ⟨by show (y 3 == some true) = false; rw [yg]; rfl, rfl⟩
                rcases i with _ | i
                · obtain rfl := Option.some.inj ho
                  have yg : y 3 = some false := (hdep ⟨3, .guard⟩ (by simp) rfl).2 35 rfl
                  exact .inr ⟨by show (y 3 == some true) = false; rw [yg]; rfl, rfl⟩
                rcases i with _ | i
                · obtain rfl := Option.some.inj ho
                  have e3 : ρ (.tmp 35) = .bool false := (hdep ⟨3, .data⟩ (by simp) rfl).1 35 rfl
                  have e13 : ρ (.tmp 45) = undef := (hdep ⟨13, .data⟩ (by simp) rfl).1 45 rfl
                  have ocn : ∀ v, ρ (.const v) = v := fun v => hout (.const v) rfl
                  clear hdep hout
                  refine .inl ⟨rfl, (Gives.val ?_ : Gives _ _ _ (.bool false) _)⟩
                  go_simp
                rcases i with _ | i
                · obtain rfl := Option.some.inj ho
                  have e14 : ρ (.tmp 46) = .bool false := (hdep ⟨14, .data⟩ (by simp) rfl).1 46 rfl
                  clear hdep hout
                  refine .inl ⟨rfl, (Gives.val ?_ : Gives _ _ _ (.bool false) _)⟩
                  go_simp
                cases ho
              case fin =>
                intro x hBx
                have hBf := HZB.out.trans (hBx.mono HZB.out.size)
                go_wp2_with fail
                go_ret
                exact ⟨retBool (by rw [HFr3.out, h5]; simp), hBf⟩
            · have h5n : (n2 != 0) = true := by simp [h5]
              go_wp2_with fail
              refine wp_region_vals (by kernel_rfl) (by kernel_rfl) (by kernel_rfl) (by kernel_rfl) (fun j => [.pointer (some ⟨x0.heap.size, 2, none⟩), .int .i64 n2, .bool true, .bool true, .pointer (some ⟨x0.heap.size, 2, none⟩), .int .i64 n2, .slice (some ⟨g, o, none⟩) pn cap, .pointer (some ⟨x0.heap.size, 0, none⟩), .int .i64 k, .pointer (some ⟨x0.heap.size, 1, none⟩), .int .i64 a, VI, .int .i64 FI, .bool (n2 == FI), .bool (n2 == FI), .bool (n2 == FI)].getD j undef) z (Below.drew (Below.refl _ _)) ?step ⟨#[.slice (some ⟨g, o, none⟩) pn cap, .agg #[.int .i64 k, .int .i64 a, .int .i64 n2], undef, .pointer (some ⟨x0.heap.size, 0, none⟩), .bool (n2 == FI), .pointer (some ⟨x0.heap.size, 0, none⟩), .int .i64 k, .bool false, .bool false, .pointer (some ⟨x0.heap.size, 0, none⟩), .int .i64 k, .slice (some ⟨g, o, none⟩) pn cap, .int .i64 pn, .bool false, .bool false, .bool false, .pointer (some ⟨x0.heap.size, 1, none⟩), .int .i64 a, .bool false, .bool false, .bool false, .pointer (some ⟨x0.heap.size, 1, none⟩), .int .i64 a, .slice (some ⟨g, o, none⟩) pn cap, .pointer (some ⟨x0.heap.size, 0, none⟩), .int .i64 k, .pointer (some ⟨g, o + k, none⟩), .pointer (some ⟨g, o + k, none⟩), .slice pk cl ck, .int .i64 cl, .bool false, .bool false, .pointer (some ⟨x0.heap.size, 2, none⟩), .int .i64 n2, .bool true, .bool true, .pointer (some ⟨x0.heap.size, 2, none⟩), .int .i64 n2, .slice (some ⟨g, o, none⟩) pn cap, .pointer (some ⟨x0.heap.size, 0, none⟩), .int .i64 k, .pointer (some ⟨x0.heap.size, 1, none⟩), .int .i64 a, VI, .int .i64 FI, .bool (n2 == FI), .bool (n2 == FI)], []⟩ (by kernel_rfl) ?fin
              case step =>
                intro i o ho ρ y x hBx hdep hout
                rcases i with _ | i
                · obtain rfl := Option.some.inj ho
                  have o3 : ρ (.tmp 3) = .pointer (some ⟨x0.heap.size, 0, none⟩) := hout (.tmp 3) rfl
                  clear hdep hout
                  refine .inl ⟨rfl, (Gives.val ?_ : Gives _ _ _ (.pointer (some ⟨x0.heap.size, 2, none⟩)) _)⟩
                  go_simp
                rcases i with _ | i
                · obtain rfl := Option.some.inj ho
                  have e0 : ρ (.tmp 32) = .pointer (some ⟨x0.heap.size, 2, none⟩) := (hdep ⟨0, .data⟩ (by simp) rfl).1 32 rfl
                  clear hdep hout
                  have kb := K0.out.later hBx
                  have c0 := kb.c 0 _ rfl
                  have c1 := kb.c 1 _ rfl
                  have c2 := kb.c 2 _ rfl
                  have cl0 := kb.lt
                  refine .inl ⟨rfl, (Gives.val ?_ : Gives _ _ _ (.int .i64 n2) _)⟩
                  go_simp
                rcases i with _ | i
                · obtain rfl := Option.some.inj ho
                  have e1 : ρ (.tmp 33) = .int .i64 n2 := (hdep ⟨1, .data⟩ (by simp) rfl).1 33 rfl
                  have ocn : ∀ v, ρ (.const v) = v := fun v => hout (.const v) rfl
                  clear hdep hout
                  refine .inl ⟨rfl, (Gives.val ?_ : Gives _ _ _ (.bool true) _)⟩
                  go_simp
                rcases i with _ | i
                · obtain rfl := Option.some.inj ho
                  have e2 : ρ (.tmp 34) = .bool true := (hdep ⟨2, .data⟩ (by simp) rfl).1 34 rfl
                  clear hdep hout
                  refine .inl ⟨rfl, (Gives.val ?_ : Gives _ _ _ (.bool true) _)⟩
                  go_simp
                rcases i with _ | i
                · obtain rfl := Option.some.inj ho
                  have o3 : ρ (.tmp 3) = .pointer (some ⟨x0.heap.size, 0, none⟩) := hout (.tmp 3) rfl
                  have yg : y 3 = some true := (hdep ⟨3, .guard⟩ (by simp) rfl).2 35 rfl
                  clear hdep hout
                  refine .inl ⟨(by show (y 3 == some true) = true; rw [yg]; rfl), (Gives.val ?_ : Gives _ _ _ (.pointer (some ⟨x0.heap.size, 2, none⟩)) _)⟩
                  go_simp
                rcases i with _ | i
                · obtain rfl := Option.some.inj ho
                  have e4 : ρ (.tmp 36) = .pointer (some ⟨x0.heap.size, 2, none⟩) := (hdep ⟨4, .data⟩ (by simp) rfl).1 36 rfl
                  have yg : y 3 = some true := (hdep ⟨3, .guard⟩ (by simp) rfl).2 35 rfl
                  clear hdep hout
                  have kb := K0.out.later hBx
                  have c0 := kb.c 0 _ rfl
                  have c1 := kb.c 1 _ rfl
                  have c2 := kb.c 2 _ rfl
                  have cl0 := kb.lt
                  refine .inl ⟨(by show (y 3 == some true) = true; rw [yg]; rfl), (Gives.val ?_ : Gives _ _ _ (.int .i64 n2) _)⟩
                  go_simp
                rcases i with _ | i
                · obtain rfl := Option.some.inj ho
                  have o0 : ρ (.tmp 0) = .slice (some ⟨g, o, none⟩) pn cap := hout (.tmp 0) rfl
                  have yg : y 3 = some true := (hdep ⟨3, .guard⟩ (by simp) rfl).2 35 rfl
                  clear hdep hout
                  refine .inl ⟨(by show (y 3 == some true) = true; rw [yg]; rfl), (Gives.val ?_ : Gives _ _ _ (.slice (some ⟨g, o, none⟩) pn cap) _)⟩
                  go_simp
                rcases i with _ | i
                · obtain rfl := Option.some.inj ho
                  have o3 : ρ (.tmp 3) = .pointer (some ⟨x0.heap.size, 0, none⟩) := hout (.tmp 3) rfl
                  have yg : y 3 = some true := (hdep ⟨3, .guard⟩ (by simp) rfl).2 35 rfl
                  clear hdep hout
                  refine .inl ⟨(by show (y 3 == some true) = true; rw [yg]; rfl), (Gives.val ?_ : Gives _ _ _ (.pointer (some ⟨x0.heap.size, 0, none⟩)) _)⟩
                  go_simp
                rcases i with _ | i
                · obtain rfl := Option.some.inj ho
                  have e7 : ρ (.tmp 39) = .pointer (some ⟨x0.heap.size, 0, none⟩) := (hdep ⟨7, .data⟩ (by simp) rfl).1 39 rfl
                  have yg : y 3 = some true := (hdep ⟨3, .guard⟩ (by simp) rfl).2 35 rfl
                  clear hdep hout
                  have kb := K0.out.later hBx
                  have c0 := kb.c 0 _ rfl
                  have c1 := kb.c 1 _ rfl
                  have c2 := kb.c 2 _ rfl
                  have cl0 := kb.lt
                  refine .inl ⟨(by show (y 3 == some true) = true; rw [yg]; rfl), (Gives.val ?_ : Gives _ _ _ (.int .i64 k) _)⟩
                  go_simp
                rcases i with _ | i
                · obtain rfl := Option.some.inj ho
                  have o3 : ρ (.tmp 3) = .pointer (some ⟨x0.heap.size, 0, none⟩) := hout (.tmp 3) rfl
                  have yg : y 3 = some true := (hdep ⟨3, .guard⟩ (by simp) rfl).2 35 rfl
                  clear hdep hout
                  refine .inl ⟨(by show (y 3 == some true) = true; rw [yg]; rfl), (Gives.val ?_ : Gives _ _ _ (.pointer (some ⟨x0.heap.size, 1, none⟩)) _)⟩
                  go_simp
                rcases i with _ | i
                · obtain rfl := Option.some.inj ho
                  have e9 : ρ (.tmp 41) = .pointer (some ⟨x0.heap.size, 1, none⟩) := (hdep ⟨9, .data⟩ (by simp) rfl).1 41 rfl
                  have yg : y 3 = some true := (hdep ⟨3, .guard⟩ (by simp) rfl).2 35 rfl
                  clear hdep hout
                  have kb := K0.out.later hBx
                  have c0 := kb.c 0 _ rfl
                  have c1 := kb.c 1 _ rfl
                  have c2 := kb.c 2 _ rfl
                  have cl0 := kb.lt
                  refine .inl ⟨(by show (y 3 == some true) = true; rw [yg]; rfl), (Gives.val ?_ : Gives _ _ _ (.int .i64 a) _)⟩
                  go_simp
                rcases i with _ | i
                · obtain rfl := Option.some.inj ho
                  have e6 : ρ (.tmp 38) = .slice (some ⟨g, o, none⟩) pn cap := (hdep ⟨6, .data⟩ (by simp) rfl).1 38 rfl
                  have e8 : ρ (.tmp 40) = .int .i64 k := (hdep ⟨8, .data⟩ (by simp) rfl).1 40 rfl
                  have e10 : ρ (.tmp 42) = .int .i64 a := (hdep ⟨10, .data⟩ (by simp) rfl).1 42 rfl
                  have yg : y 3 = some true := (hdep ⟨3, .guard⟩ (by simp) rfl).2 35 rfl
                  have ofn : ∀ f, ρ (.func f) = .func (.func f) #[] #[] := fun f => hout (.func f) rfl
                  clear hdep hout
                  refine .inl ⟨?_, ?_⟩
                  · show (y 3 == some true) = true
                    rw [yg]; rfl
                  show Gives _ _ _ (VI) _
                  refine Gives.call (HIA.out x (HZB.out.trans (hBx.mono HZB.out.size))) ?_
                  go_simp
                rcases i with _ | i
                · obtain rfl := Option.some.inj ho
                  have e11 : ρ (.tmp 43) = VI := (hdep ⟨11, .data⟩ (by simp) rfl).1 43 rfl
                  have yg : y 3 = some true := (hdep ⟨3, .guard⟩ (by simp) rfl).2 35 rfl
                  have ofn : ∀ f, ρ (.func f) = .func (.func f) #[] #[] := fun f => hout (.func f) rfl
                  clear hdep hout
                  refine .inl ⟨?_, ?_⟩
                  · show (y 3 == some true) = true
                    rw [yg]; rfl
                  show Gives _ _ _ (.int .i64 FI) _
                  refine Gives.call (HFO.out x) ?_
                  go_simp
                rcases i with _ | i
                · obtain rfl := Option.some.inj ho
                  have e5 : ρ (.tmp 37) = .int .i64 n2 := (hdep ⟨5, .data⟩ (by simp) rfl).1 37 rfl
                  have e12 : ρ (.tmp 44) = .int .i64 FI := (hdep ⟨12, .data⟩ (by simp) rfl).1 44 rfl
                  have yg : y 3 = some true := (hdep ⟨3, .guard⟩ (by simp) rfl).2 35 rfl
                  clear hdep hout
                  refine .inl ⟨(by show (y 3 == some true) = true; rw [yg]; rfl), (Gives.val ?_ : Gives _ _ _ (.bool (n2 == FI)) _)⟩
                  go_simp
                rcases i with _ | i
                · obtain rfl := Option.some.inj ho
                  have e3 : ρ (.tmp 35) = .bool true := (hdep ⟨3, .data⟩ (by simp) rfl).1 35 rfl
                  have e13 : ρ (.tmp 45) = .bool (n2 == FI) := (hdep ⟨13, .data⟩ (by simp) rfl).1 45 rfl
                  have ocn : ∀ v, ρ (.const v) = v := fun v => hout (.const v) rfl
                  clear hdep hout
                  refine .inl ⟨rfl, (Gives.val ?_ : Gives _ _ _ (.bool (n2 == FI)) _)⟩
                  go_simp
                rcases i with _ | i
                · obtain rfl := Option.some.inj ho
                  have e14 : ρ (.tmp 46) = .bool (n2 == FI) := (hdep ⟨14, .data⟩ (by simp) rfl).1 46 rfl
                  clear hdep hout
                  refine .inl ⟨rfl, (Gives.val ?_ : Gives _ _ _ (.bool (n2 == FI)) _)⟩
                  go_simp
                cases ho
              case fin =>
                intro x hBx
                have hBf := HZB.out.trans (hBx.mono HZB.out.size)
                go_wp2_with fail
                go_ret
                exact ⟨retBool (by rw [HFr3.out]; exact eqb n2 FI h5), hBf⟩

end Go.Proofs.YtlkebkajdlgebaaGreat

/-
  The laws' own helpers on rows of calls: measured, copied, the same, marked, held.
-/
namespace Go.Proofs.YtlkebkajdlgebaaGreat
open Go.RowKit
set_option linter.unusedVariables false
set_option linter.unusedSimpArgs false

theorem eqCall_at (n0 : Int) (n1 : Int) (w : World) : Calls Tryz.prog 114 #[.agg #[.int .i64 n0, .int .i64 n1], .agg #[.int .i64 n0, .int .i64 n1]] w fun e w' => e = .returned (.bool true) ∧ Below w.heap.size w w' := by
  go_enter Tryz.func114, Tryz.ntmps114
  go_wp2
  go_ret
  exact ⟨rfl, by go_grown⟩
set_option maxHeartbeats 400000 in
theorem toCall_at (n0 : Int) (n1 : Int) (w : World) : Calls Tryz.prog 102 #[.agg #[.int .i64 n0, .int .i64 n1]] w fun e w' => e = .returned (.agg #[.int .i64 n0, .int .i64 n1]) ∧ Below w.heap.size w w' := by
  go_enter Tryz.func102, Tryz.ntmps102
  go_wp2
  go_returns
  exact ⟨rfl, by go_grown⟩
theorem szCallS_any (p : Option Addr) (n cap : Nat) (left : Int) (w : World) (h0 : 0 ≤ left) (h1 : left ≤ 1048576) (hn : n ≤ maxLen) :
    Calls Tryz.prog 72 #[.slice p n cap, .int .i64 left] w fun e w' => e = .returned (.int .i64 (if left - n < 0 then -1 else left - n)) ∧ w' = w := by
  unfold maxLen at hn
  have hn' : (n : Int) ≤ 9223372036854775807 := by omega
  by_cases hlt : left - (n : Int) < 0
  · go_enter Tryz.func72, Tryz.ntmps72
    go_wp2
    go_ret
    exact ⟨retInt (by first | rfl | omega), rfl⟩
  · go_enter Tryz.func72, Tryz.ntmps72
    go_wp2
    go_ret
    exact ⟨retInt (by first | rfl | omega), rfl⟩
theorem infoCall : (Tryz.prog.info? 99).map (fun i => (i.zero, i.size, i.bytes)) = some (some (.agg #[.int .i64 (0), .int .i64 (0)]), 2, 16) := by kernel_rfl
set_option maxHeartbeats 1000000 in
theorem toCallS_any (x : World) (z : Bool) (B E : Nat) (v : Value) (n : Nat) (N : Nat → Int) (h : IRow 2 z x B E v n N) (hn : n ≤ 1048576) :
    Calls Tryz.prog 78 #[v] x fun e y => ∃ u, e = .returned u ∧ IRow 2 true y x.heap.size y.heap.size u n N ∧ Below x.heap.size x y := by
  obtain ⟨i, hi, hz0, hz1, hz2⟩ : ∃ i, Tryz.prog.info? 99 = some i ∧ i.zero = some (.agg #[.int .i64 (0), .int .i64 (0)]) ∧ i.size = 2 ∧ i.bytes = 16 := info_parts infoCall
  have HI : Hid (Tryz.prog.info? 99 = some i ∧ i.zero = some (.agg #[.int .i64 (0), .int .i64 (0)]) ∧ i.size = 2 ∧ i.bytes = 16) := ⟨hi, hz0, hz1, hz2⟩
  clear hi hz0 hz1 hz2
  obtain ⟨p, cap, rfl, hm, hc⟩ := h
  have HN : Hid (n ≤ 1048576) := hn
  have hni : (n : Int) ≤ 1048576 := by omega
  have HM : Hid (n ≤ maxLen) := hm
  clear hn hm
  go_enter Tryz.func78, Tryz.ntmps78
  go_wp2_with (refine wpList_make_full _ rfl _ _ 69 rfl x.heap.size 99 i (.agg #[.int .i64 (0), .int .i64 (0)]) 2 Tryz.underlying69 HI.out.1 HI.out.2.1 HI.out.2.2.1 .i64 .i64 n n n rfl rfl rfl rfl ?b2 HM.out (Nat.le_refl _) ?_)
  case b2 => rw [HI.out.2.2.2]; have := HN.out; omega
  intro w1 hown0 hgr
  obtain ⟨xs, hown⟩ : ∃ xs, w1.ownsRow x.heap.size 99 2 (.slice (some ⟨x.heap.size, 0, none⟩) n n) n xs := ⟨_, hown0⟩
  clear hown0
  have hg1 : x.heap.size < w1.heap.size := (World.ownsRow.lt hown x.heap.size rfl).2
  have hB1 : Below x.heap.size x w1 := (Below.refl _ _).grown hgr (Nat.le_refl _) (fun k hk => by simp at hk)
  have hcell : ∀ k, k < n * 2 → ∃ v, w1.cell? ⟨x.heap.size, k, none⟩ = some v := by
    intro k hk
    have hl : k < xs.length := by rw [hown.1]; exact hk
    have := World.ownsRow.cells hown rfl k _ (List.getElem?_eq_getElem hl)
    rw [Addr.add_mid, Nat.zero_add] at this
    exact ⟨_, this⟩
  have hfz : ∀ k, w1.frozen? ⟨x.heap.size, k, none⟩ = false := fun k => World.ownsRow.frozenAt hown k
  clear hown hgr
  go_wp2_with fail
  go_loopw [4] (fun t y => ∃ k : Nat, k ≤ n ∧ t = .int .i64 k ∧ Below x.heap.size x y ∧ x.heap.size < y.heap.size ∧ (∀ j, j < n * 2 → ∃ v, y.cell? ⟨x.heap.size, j, none⟩ = some v) ∧ (∀ j, y.frozen? ⟨x.heap.size, j, none⟩ = false) ∧ (∀ j, j < k * 2 → y.cell? ⟨x.heap.size, j, none⟩ = some (.int .i64 (N j)))) (fun t _ => n - (intOf t).toNat)
  case atStart => exact ⟨0, by omega, rfl, hB1, hg1, hcell, hfz, fun j hj => by omega⟩
  case round =>
    clear hB1 hg1 hcell hfz
    obtain ⟨k, hk, rfl, hB, hg, hcell, hfz, hdone⟩ := hrel
    by_cases hlt : k < n
    · rcases hc with h0 | ⟨g, o, rfl, hBg, hgE, hEx, _, hins⟩
      · omega
      have hgx : g < x.heap.size := by omega
      have hki : (k : Int) < (n : Int) := by omega
      have d0 := (hB.cell (p := ⟨g, o + (k * 2), none⟩) hgx).trans (hins (k * 2) (by omega))
      have d1 := (hB.cell (p := ⟨g, o + (k * 2 + 1), none⟩) hgx).trans (hins (k * 2 + 1) (by omega))
      rw [← Nat.add_assoc] at d1
      obtain ⟨n0, hn0⟩ : ∃ q, N (k * 2) = q := ⟨_, rfl⟩
      obtain ⟨n1, hn1⟩ : ∃ q, N (k * 2 + 1) = q := ⟨_, rfl⟩
      have HN0 : Hid (N (k * 2) = n0) := hn0
      have HN1 : Hid (N (k * 2 + 1) = n1) := hn1
      rw [hn0] at d0
      rw [hn1] at d1
      have HC : Hid (∀ j, j < n * 2 → ∃ v, wr.cell? ⟨x.heap.size, j, none⟩ = some v) := hcell
      have HF : Hid (∀ j, wr.frozen? ⟨x.heap.size, j, none⟩ = false) := hfz
      have HD : Hid (∀ j, j < k * 2 → wr.cell? ⟨x.heap.size, j, none⟩ = some (.int .i64 (N j))) := hdone
      clear hcell hdone hins hfz hn0 hn1
      go_wp2_with fail
      refine (toCall_at n0 n1 _).mono ?_
      rintro e w2 ⟨rfl, hb2⟩
      obtain ⟨u0, e0⟩ := HC.out (k * 2) (by omega)
      obtain ⟨u1, e1⟩ := HC.out (k * 2 + 1) (by omega)
      replace e0 := (hb2.cell (p := ⟨x.heap.size, k * 2, none⟩) hg).trans e0
      replace e1 := (hb2.cell (p := ⟨x.heap.size, k * 2 + 1, none⟩) hg).trans e1
      have f0 := (hb2.frozen (p := ⟨x.heap.size, k * 2, none⟩) hg).trans (HF.out _)
      have f1 := (hb2.frozen (p := ⟨x.heap.size, k * 2 + 1, none⟩) hg).trans (HF.out _)
      clear d0 d1
      go_wp2_with fail
      go_roundw
      case rel =>
        refine ⟨k + 1, by omega, by go_num, ?_⟩
        change Below x.heap.size x (set2 w2 x.heap.size (k * 2) _ _) ∧ x.heap.size < (set2 w2 x.heap.size (k * 2) _ _).heap.size ∧ (∀ j, j < n * 2 → ∃ v, (set2 w2 x.heap.size (k * 2) _ _).cell? ⟨x.heap.size, j, none⟩ = some v) ∧ (∀ j, (set2 w2 x.heap.size (k * 2) _ _).frozen? ⟨x.heap.size, j, none⟩ = false) ∧ (∀ j, j < (k + 1) * 2 → (set2 w2 x.heap.size (k * 2) _ _).cell? ⟨x.heap.size, j, none⟩ = some (.int .i64 (N j)))
        refine ⟨set2_below (hB.trans (hb2.mono hB.size)) (Nat.le_refl _), by rw [set2_size]; exact Nat.lt_of_lt_of_le hg hb2.size, fun j hj => set2_some _ _ _ _ _ _ ?_, fun j => ?_, fun j hj => ?_⟩
        · obtain ⟨v, hv⟩ := HC.out j hj
          exact ⟨v, (hb2.cell (p := ⟨x.heap.size, j, none⟩) hg).trans hv⟩
        · rw [set2_frozen]; exact (hb2.frozen (p := ⟨x.heap.size, j, none⟩) hg).trans (HF.out j)
        · by_cases hjk : j < k * 2
          · exact (set2_miss _ _ _ _ _ _ _ (by omega)).trans ((hb2.cell (p := ⟨x.heap.size, j, none⟩) hg).trans (HD.out j hjk))
          · have hh := set2_hit w2 x.heap.size (k * 2) (.int .i64 n0) (.int .i64 n1) ⟨_, e0⟩ ⟨_, e1⟩
            rcases (by omega : j = k * 2 ∨ j = k * 2 + 1) with rfl | rfl
            · rw [HN0.out]; exact hh.1
            · rw [HN1.out]; exact hh.2
      case measure => simp [intOf]; omega
    · obtain rfl : k = n := by omega
      have hki : ¬ (k : Int) < (k : Int) := by omega
      have HD : Hid (∀ j, j < k * 2 → wr.cell? ⟨x.heap.size, j, none⟩ = some (.int .i64 (N j))) := hdone
      have HF : Hid (∀ j, wr.frozen? ⟨x.heap.size, j, none⟩ = false) := hfz
      clear hcell hdone hc hfz
      go_wp2_with fail
      go_ret
      exact ⟨_, rfl, ⟨some ⟨x.heap.size, 0, none⟩, k, rfl, HM.out, .inr ⟨x.heap.size, 0, rfl, Nat.le_refl _, hg, Nat.le_refl _, fun _ => HF.out, fun j hj => by rw [Nat.zero_add]; exact HD.out j hj⟩⟩, hB⟩

theorem keepC2 {w y : World} {g o g' o' k : Nat} {n0 n1 : Int} (h : (fun z => z.cell? ⟨g, o + k * 2, none⟩ = some (.int .i64 n0) ∧ z.cell? ⟨g, o + k * 2 + 1, none⟩ = some (.int .i64 n1) ∧ z.cell? ⟨g', o' + k * 2, none⟩ = some (.int .i64 n0) ∧ z.cell? ⟨g', o' + k * 2 + 1, none⟩ = some (.int .i64 n1)) w) (hb : Below w.heap.size w y) (hg : g < w.heap.size) (hg' : g' < w.heap.size) : (fun z => z.cell? ⟨g, o + k * 2, none⟩ = some (.int .i64 n0) ∧ z.cell? ⟨g, o + k * 2 + 1, none⟩ = some (.int .i64 n1) ∧ z.cell? ⟨g', o' + k * 2, none⟩ = some (.int .i64 n0) ∧ z.cell? ⟨g', o' + k * 2 + 1, none⟩ = some (.int .i64 n1)) y := by
  obtain ⟨d0, d1, e0, e1⟩ := h
  exact ⟨(hb.cell (p := ⟨g, _, none⟩) hg).trans d0, (hb.cell (p := ⟨g, _, none⟩) hg).trans d1, (hb.cell (p := ⟨g', _, none⟩) hg').trans e0, (hb.cell (p := ⟨g', _, none⟩) hg').trans e1⟩
set_option maxHeartbeats 1000000 in
theorem eqCallS_any (x : World) (z z' : Bool) (B E C D : Nat) (v u : Value) (n : Nat) (N : Nat → Int) (h : IRow 2 z x B E v n N) (h' : IRow 2 z' x C D u n N) :
    Calls Tryz.prog 87 #[v, u] x fun e y => e = .returned (.bool true) ∧ Below x.heap.size x y := by
  obtain ⟨p, cap, rfl, hm, hc⟩ := h
  obtain ⟨p', cap', rfl, _, hc'⟩ := h'
  unfold maxLen at hm
  have hni : (n : Int) ≤ 9223372036854775807 := by omega
  clear hm
  go_enter Tryz.func87, Tryz.ntmps87
  go_wp2_with fail
  go_loopw [5] (fun t y => ∃ k : Nat, k ≤ n ∧ t = .int .i64 k ∧ Below x.heap.size x y) (fun t _ => n - (intOf t).toNat)
  case atStart => exact ⟨0, by omega, rfl, Below.refl _ _⟩
  case round =>
    obtain ⟨k, hk, rfl, hB⟩ := hrel
    by_cases hlt : k < n
    · rcases hc with h0 | ⟨g, o, rfl, hBg, hgE, hEx, _, hins⟩
      · omega
      rcases hc' with h0 | ⟨g', o', rfl, hBg', hgE', hEx', _, hins'⟩
      · omega
      have hgx : g < x.heap.size := by omega
      have hgx' : g' < x.heap.size := by omega
      have hki : (k : Int) < (n : Int) := by omega
      have d0 := (hB.cell (p := ⟨g, o + (k * 2), none⟩) hgx).trans (hins (k * 2) (by omega))
      have d1 := (hB.cell (p := ⟨g, o + (k * 2 + 1), none⟩) hgx).trans (hins (k * 2 + 1) (by omega))
      have e0 := (hB.cell (p := ⟨g', o' + (k * 2), none⟩) hgx').trans (hins' (k * 2) (by omega))
      have e1 := (hB.cell (p := ⟨g', o' + (k * 2 + 1), none⟩) hgx').trans (hins' (k * 2 + 1) (by omega))
      rw [← Nat.add_assoc] at d1 e1
      clear hins hins'
      generalize N (k * 2) = n0 at *
      generalize N (k * 2 + 1) = n1 at *
      have hgw : g < wr.heap.size := Nat.lt_of_lt_of_le hgx hB.size
      have hgw' : g' < wr.heap.size := Nat.lt_of_lt_of_le hgx' hB.size
      go_wp2_with fail
      go_region_held3 (fun z => z.cell? ⟨g, o + k * 2, none⟩ = some (.int .i64 n0) ∧ z.cell? ⟨g, o + k * 2 + 1, none⟩ = some (.int .i64 n1) ∧ z.cell? ⟨g', o' + k * 2, none⟩ = some (.int .i64 n0) ∧ z.cell? ⟨g', o' + k * 2 + 1, none⟩ = some (.int .i64 n1)) (first | (with_reducible assumption) | exact ⟨d0, d1, e0, e1⟩ | fail) ((go_at_call 114; refine (eqCall_at n0 n1 _).mono ?_; rintro e w2 ⟨rfl, hb2⟩; have hS2 := keepC2 (w := wr.drew) (o := o) (o' := o') (k := k) (n0 := n0) (n1 := n1) ⟨d0, d1, e0, e1⟩ hb2 hgw hgw'))
      have hB2 : Below x.heap.size x w2 := hB.trans ((Below.drew (Below.refl _ _)).trans (hb2.mono (by simp)) |>.mono hB.size)
      go_wp2_with fail
      go_roundw
      case rel => exact ⟨k + 1, by omega, by go_num, hB2⟩
      case measure => simp [intOf]; omega
    · obtain rfl : k = n := by omega
      have hki : ¬ (k : Int) < (k : Int) := by omega
      go_wp2_with fail
      go_ret
      exact ⟨rfl, hB⟩

end Go.Proofs.YtlkebkajdlgebaaGreat
