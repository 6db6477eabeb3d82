import Derived.Test.YtlkebkajdlgebaaGreatB21
import Derived.Test.YtlkebkajdlgebaaGreatB12
import Derived.Test.YtlkebkajdlgebaaGreatB19
/-
  Whether a sum is ok: the contract of the program's SumOk, given one of callsOf.
-/
namespace Go.Proofs.YtlkebkajdlgebaaGreat
open Go.RowKit
set_option linter.unusedVariables false
set_option linter.unusedSimpArgs false

set_option maxRecDepth 100000 in
set_option maxHeartbeats 4000000 in
theorem sumOk_impl (x0 : World) (B : Nat) (v : Value) (P : List (List I4)) (h : ProgAt x0 B v P) (s : Sm) (u : Value) (hs : RowsAt x0 u s.R) (Q : Nat → Int → Bool) (HC : progOkF P = true → ∀ k, k < P.length → CallsOfIs B (P.getD k []) (Q k)) :
    Calls Tryz.prog 12 #[v, .agg #[.int .i64 s.p, u]] x0 fun e y => e = .returned (.bool (progOkF P && sumF P Q s)) ∧ Below x0.heap.size x0 y := by
  obtain ⟨pp, cp, rfl, _⟩ := h.shape
  obtain ⟨ps, cs, rfl, _⟩ := hs.shape
  have HP : Hid (ProgAt x0 B (.slice pp P.length cp) P) := h
  have HS : Hid (RowsAt x0 (.slice ps s.R.length cs) s.R) := hs
  have HCC : Hid (progOkF P = true → ∀ k, k < P.length → CallsOfIs B (P.getD k []) (Q k)) := HC
  clear h hs HC
  go_enter Tryz.func12, Tryz.ntmps12
  go_wp2_with fail
  have HX : Hid (Below x0.heap.size x0 (x0.alloc (.cells #[.int .i64 s.p, .slice ps s.R.length cs] 33))) := (Below.refl _ _).alloc (Nat.le_refl _) _
  have KX : Hid (BxN (x0.alloc (.cells #[.int .i64 s.p, .slice ps s.R.length cs] 33)) x0.heap.size [.int .i64 s.p, .slice ps s.R.length cs]) := BxN.new x0 [_, _] _
  generalize x0.alloc (.cells #[.int .i64 s.p, .slice ps s.R.length cs] 33) = X at HX KX ⊢
  refine (progOk_impl X B _ P (HP.out.later HX.out)).mono ?_
  rintro e y ⟨rfl, hb⟩
  have HY : Hid (Below x0.heap.size x0 y) := HX.out.trans (hb.mono HX.out.size)
  have KY := KX.out.laterH hb
  clear hb HX KX
  cases hok : progOkF P
  · go_wp2_with fail
    go_ret
    exact ⟨ret_bool (by rw [hok]; rfl), HY.out⟩
  · have HOK : Hid (progOkF P = true) := hok
    clear hok
    have a0 := KY.out.c 0 _ rfl
    have a1 := KY.out.c 1 _ rfl
    have l1 := KY.out.lt
    go_wp2_with fail
    refine (sumOk_of y B _ P (HP.out.later HY.out) HOK.out s _ (HS.out.later HY.out) Q (HCC.out HOK.out)).mono ?_
    rintro e z ⟨rfl, hb⟩
    have HZ : Hid (Below x0.heap.size x0 z) := HY.out.trans (hb.mono HY.out.size)
    clear hb a0 a1 l1 KY
    go_wp2_with fail
    go_ret
    exact ⟨ret_bool (by rw [HOK.out]; rfl), HZ.out⟩

end Go.Proofs.YtlkebkajdlgebaaGreat

/-
  Whether sums are in their order: the contract of ascend[Sum].
-/
namespace Go.Proofs.YtlkebkajdlgebaaGreat
open Go.RowKit
set_option linter.unusedVariables false
set_option linter.unusedSimpArgs false

def sumLt (M : List Sm) (j : Nat) : Bool := decide (cmpF (M.getD j sm0).p (M.getD (j + 1) sm0).p < 0)
set_option maxRecDepth 100000 in
set_option maxHeartbeats 4000000 in
theorem ascendSumS_any (x0 : World) (v : Value) (M : List Sm) (h : SmsAt x0 v M) :
    Calls Tryz.prog 40 #[v, .func (.func 41) #[] #[]] x0 fun e y => e = .returned (.bool (allB (sumLt M) (M.length - 1))) ∧ Below x0.heap.size x0 y := by
  obtain ⟨p, cap, rfl, hm⟩ := h.shape
  unfold maxLen at hm
  have hni : (M.length : Int) ≤ 9223372036854775807 := by omega
  clear hm
  have HS : Hid (SmsAt x0 (.slice p M.length cap) M) := h
  clear h
  generalize hn : M.length = n at *
  have HN : Hid (M.length = n) := hn
  clear hn
  generalize hOK : sumLt M = ok
  have HOK : Hid (sumLt M = ok) := hOK
  clear hOK
  go_enter Tryz.func40, Tryz.ntmps40
  go_wp2_with fail
  go_loopw [5] (fun t y => ∃ k : Nat, (k + 1 ≤ n ∨ k = 0) ∧ t = .int .i64 ((k + 1 : Nat) : Int) ∧ Below x0.heap.size x0 y ∧ Hid (∀ j, j < k → ok j = true)) (fun t _ => n + 1 - (intOf t).toNat)
  case atStart => exact ⟨0, .inr rfl, rfl, Below.refl _ _, fun j hj => by omega⟩
  case round =>
    obtain ⟨k, hk, rfl, hB, hd⟩ := hrel
    by_cases hlt : k + 1 < n
    · have HS2 : SmsAt x0 (.slice p M.length cap) M := by rw [HN.out]; exact HS.out
      obtain ⟨g, o, rfl, hgx, hr⟩ := HS2.sum (j := k) (by rw [HN.out]; omega)
      obtain ⟨g', o', hp', _, hr'⟩ := HS2.sum (j := k + 1) (by rw [HN.out]; omega)
      injection hp' with hp'
      injection hp' with e1 e2
      subst e1 e2
      have hki : ((k + 1 : Nat) : Int) < (n : Int) := by omega
      have hkn : (k : Int) < (n : Int) := by omega
      have hok : sumLt M k = ok k := by rw [HOK.out]
      unfold sumLt at hok
      obtain ⟨d0, ⟨u0, d1, _⟩⟩ := hr.later hB hgx
      obtain ⟨e0, ⟨u1, e1, _⟩⟩ := hr'.later hB hgx
      generalize (M.getD k sm0).p = a0 at *
      generalize (M.getD (k + 1) sm0).p = b0 at *
      clear hr hr' HS2
      have HBW : Hid (Below x0.heap.size x0 wr) := hB
      generalize hV : cmpF a0 b0 = V at hok
      have HOKK : Hid (ok k = decide (V < 0)) := hok.symm
      clear hok
      have HV : Hid (cmpF a0 b0 = V) := hV
      clear hV
      have hgw : g < wr.heap.size := Nat.lt_of_lt_of_le hgx hB.size
      have HK : Hid (k + 1 < n) := hlt
      clear hB hk hlt hgx
      have hk1 : 0 ≤ ((k + 1 : Nat) : Int) - 1 := by omega
      generalize hq : k + 1 = q at *
      have hq1 : (q : Int) - 1 = (k : Int) := by omega
      have HC : Hid (∀ z : World, Calls Tryz.prog 41 #[.agg #[.int .i64 a0, u0], .agg #[.int .i64 b0, u1]] z fun e y => e = .returned (.int .i64 V) ∧ Below z.heap.size z y) := by
        show ∀ z, _
        intro z
        rw [← HV.out]
        exact sumOrder_any a0 b0 u0 u1 z
      clear HV
      have hge : (V ≥ 0) ∨ ¬ (V ≥ 0) := by omega
      rcases hge with hge | hge
      · have hgb : decide (V ≥ 0) = true := decide_eq_true hge
        have HNO : Hid (ok k = false) := by show _ = _; rw [HOKK.out]; exact decide_eq_false (by omega)
        clear HOKK
        go_wp2_with fail
        refine wp_region_vals (by kernel_rfl) (by kernel_rfl) (by kernel_rfl) (by kernel_rfl) (fun j => [.func (.func 41) #[] #[], .slice (some ⟨g, o, none⟩) n cap, .int .i64 q, .int .i64 (k : Int), .pointer (some ⟨g, o + k * 2, none⟩), .agg #[.int .i64 a0, u0], .slice (some ⟨g, o, none⟩) n cap, .int .i64 q, .pointer (some ⟨g, o + q * 2, none⟩), .agg #[.int .i64 b0, u1], .int .i64 V, .bool true].getD j undef) wr (Below.drew (Below.refl _ _)) ?step ⟨#[.slice (some ⟨g, o, none⟩) n cap, .func (.func 41) #[] #[], undef, undef, u4, .int .i64 q, .int .i64 q, .slice (some ⟨g, o, none⟩) n cap, .int .i64 n, .bool true, u10, u11, .func (.func 41) #[] #[], .slice (some ⟨g, o, none⟩) n cap, .int .i64 q, .int .i64 (k : Int), .pointer (some ⟨g, o + k * 2, none⟩), .agg #[.int .i64 a0, u0], .slice (some ⟨g, o, none⟩) n cap, .int .i64 q, .pointer (some ⟨g, o + q * 2, none⟩), .agg #[.int .i64 b0, u1], .int .i64 V, .bool true], []⟩ (by kernel_rfl) ?fin
        case step =>
          intro i o ho ρ y x hBx hdep hout
          rcases i with _ | i
          · obtain rfl := Option.some.inj ho
            have o1 : ρ (.tmp 1) = .func (.func 41) #[] #[] := hout (.tmp 1) rfl
            have ocn : ∀ v, ρ (.const v) = v := fun v => hout (.const v) rfl
            have ofn : ∀ f, ρ (.func f) = .func (.func f) #[] #[] := fun f => hout (.func f) rfl
            clear hdep hout
            refine .inl ⟨?_, ?_⟩
            · rfl
            show Gives _ _ _ (.func (.func 41) #[] #[]) _
            refine Gives.val ?_
            go_simp
          rcases i with _ | i
          · obtain rfl := Option.some.inj ho
            have o0 : ρ (.tmp 0) = .slice (some ⟨g, o, none⟩) n cap := hout (.tmp 0) rfl
            have ocn : ∀ v, ρ (.const v) = v := fun v => hout (.const v) rfl
            have ofn : ∀ f, ρ (.func f) = .func (.func f) #[] #[] := fun f => hout (.func f) rfl
            clear hdep hout
            refine .inl ⟨?_, ?_⟩
            · rfl
            show Gives _ _ _ (.slice (some ⟨g, o, none⟩) n cap) _
            refine Gives.val ?_
            go_simp
          rcases i with _ | i
          · obtain rfl := Option.some.inj ho
            have o5 : ρ (.tmp 5) = .int .i64 q := hout (.tmp 5) rfl
            have ocn : ∀ v, ρ (.const v) = v := fun v => hout (.const v) rfl
            have ofn : ∀ f, ρ (.func f) = .func (.func f) #[] #[] := fun f => hout (.func f) rfl
            clear hdep hout
            refine .inl ⟨?_, ?_⟩
            · rfl
            show Gives _ _ _ (.int .i64 q) _
            refine Gives.val ?_
            go_simp
          rcases i with _ | i
          · obtain rfl := Option.some.inj ho
            have e2 : ρ (.tmp 14) = .int .i64 q := (hdep ⟨2, .data⟩ (by simp) rfl).1 14 rfl
            have ocn : ∀ v, ρ (.const v) = v := fun v => hout (.const v) rfl
            have ofn : ∀ f, ρ (.func f) = .func (.func f) #[] #[] := fun f => hout (.func f) rfl
            clear hdep hout
            refine .inl ⟨?_, ?_⟩
            · rfl
            show Gives _ _ _ (.int .i64 (k : Int)) _
            refine Gives.val ?_
            (rw [← hq1]; go_simp; exact IntWalk.i64_in _ (by omega))
          rcases i with _ | i
          · obtain rfl := Option.some.inj ho
            have e1 : ρ (.tmp 13) = .slice (some ⟨g, o, none⟩) n cap := (hdep ⟨1, .data⟩ (by simp) rfl).1 13 rfl
            have e3 : ρ (.tmp 15) = .int .i64 (k : Int) := (hdep ⟨3, .data⟩ (by simp) rfl).1 15 rfl
            have ocn : ∀ v, ρ (.const v) = v := fun v => hout (.const v) rfl
            have ofn : ∀ f, ρ (.func f) = .func (.func f) #[] #[] := fun f => hout (.func f) rfl
            clear hdep hout
            refine .inl ⟨?_, ?_⟩
            · rfl
            show Gives _ _ _ (.pointer (some ⟨g, o + k * 2, none⟩)) _
            refine Gives.val ?_
            go_simp
          rcases i with _ | i
          · obtain rfl := Option.some.inj ho
            have e4 : ρ (.tmp 16) = .pointer (some ⟨g, o + k * 2, none⟩) := (hdep ⟨4, .data⟩ (by simp) rfl).1 16 rfl
            have ocn : ∀ v, ρ (.const v) = v := fun v => hout (.const v) rfl
            have ofn : ∀ f, ρ (.func f) = .func (.func f) #[] #[] := fun f => hout (.func f) rfl
            clear hdep hout
            refine .inl ⟨?_, ?_⟩
            · rfl
            have c0 := (hBx.cell (p := ⟨g, o + k * 2, none⟩) hgw).trans d0
            have c1 := (hBx.cell (p := ⟨g, o + k * 2 + 1, none⟩) hgw).trans d1
            show Gives _ _ _ (.agg #[.int .i64 a0, u0]) _
            refine Gives.val ?_
            go_simp
          rcases i with _ | i
          · obtain rfl := Option.some.inj ho
            have o0 : ρ (.tmp 0) = .slice (some ⟨g, o, none⟩) n cap := hout (.tmp 0) rfl
            have ocn : ∀ v, ρ (.const v) = v := fun v => hout (.const v) rfl
            have ofn : ∀ f, ρ (.func f) = .func (.func f) #[] #[] := fun f => hout (.func f) rfl
            clear hdep hout
            refine .inl ⟨?_, ?_⟩
            · rfl
            show Gives _ _ _ (.slice (some ⟨g, o, none⟩) n cap) _
            refine Gives.val ?_
            go_simp
          rcases i with _ | i
          · obtain rfl := Option.some.inj ho
            have o5 : ρ (.tmp 5) = .int .i64 q := hout (.tmp 5) rfl
            have ocn : ∀ v, ρ (.const v) = v := fun v => hout (.const v) rfl
            have ofn : ∀ f, ρ (.func f) = .func (.func f) #[] #[] := fun f => hout (.func f) rfl
            clear hdep hout
            refine .inl ⟨?_, ?_⟩
            · rfl
            show Gives _ _ _ (.int .i64 q) _
            refine Gives.val ?_
            go_simp
          rcases i with _ | i
          · obtain rfl := Option.some.inj ho
            have e6 : ρ (.tmp 18) = .slice (some ⟨g, o, none⟩) n cap := (hdep ⟨6, .data⟩ (by simp) rfl).1 18 rfl
            have e7 : ρ (.tmp 19) = .int .i64 q := (hdep ⟨7, .data⟩ (by simp) rfl).1 19 rfl
            have ocn : ∀ v, ρ (.const v) = v := fun v => hout (.const v) rfl
            have ofn : ∀ f, ρ (.func f) = .func (.func f) #[] #[] := fun f => hout (.func f) rfl
            clear hdep hout
            refine .inl ⟨?_, ?_⟩
            · rfl
            show Gives _ _ _ (.pointer (some ⟨g, o + q * 2, none⟩)) _
            refine Gives.val ?_
            go_simp
          rcases i with _ | i
          · obtain rfl := Option.some.inj ho
            have e8 : ρ (.tmp 20) = .pointer (some ⟨g, o + q * 2, none⟩) := (hdep ⟨8, .data⟩ (by simp) rfl).1 20 rfl
            have ocn : ∀ v, ρ (.const v) = v := fun v => hout (.const v) rfl
            have ofn : ∀ f, ρ (.func f) = .func (.func f) #[] #[] := fun f => hout (.func f) rfl
            clear hdep hout
            refine .inl ⟨?_, ?_⟩
            · rfl
            have c0 := (hBx.cell (p := ⟨g, o + q * 2, none⟩) hgw).trans e0
            have c1 := (hBx.cell (p := ⟨g, o + q * 2 + 1, none⟩) hgw).trans e1
            show Gives _ _ _ (.agg #[.int .i64 b0, u1]) _
            refine Gives.val ?_
            go_simp
          rcases i with _ | i
          · obtain rfl := Option.some.inj ho
            have e0 : ρ (.tmp 12) = .func (.func 41) #[] #[] := (hdep ⟨0, .data⟩ (by simp) rfl).1 12 rfl
            have e5 : ρ (.tmp 17) = .agg #[.int .i64 a0, u0] := (hdep ⟨5, .data⟩ (by simp) rfl).1 17 rfl
            have e9 : ρ (.tmp 21) = .agg #[.int .i64 b0, u1] := (hdep ⟨9, .data⟩ (by simp) rfl).1 21 rfl
            have ocn : ∀ v, ρ (.const v) = v := fun v => hout (.const v) rfl
            have ofn : ∀ f, ρ (.func f) = .func (.func f) #[] #[] := fun f => hout (.func f) rfl
            clear hdep hout
            refine .inl ⟨?_, ?_⟩
            · rfl
            show Gives _ _ _ (.int .i64 V) _
            refine Gives.call (HC.out x) ?_
            go_simp
          rcases i with _ | i
          · obtain rfl := Option.some.inj ho
            have e10 : ρ (.tmp 22) = .int .i64 V := (hdep ⟨10, .data⟩ (by simp) rfl).1 22 rfl
            have ocn : ∀ v, ρ (.const v) = v := fun v => hout (.const v) rfl
            have ofn : ∀ f, ρ (.func f) = .func (.func f) #[] #[] := fun f => hout (.func f) rfl
            clear hdep hout
            refine .inl ⟨?_, ?_⟩
            · rfl
            show Gives _ _ _ (.bool true) _
            refine Gives.val ?_
            go_simp
          cases ho
        case fin =>
          intro x hBx
          have HBX : Hid (Below x0.heap.size x0 x) := HBW.out.trans (hBx.mono HBW.out.size)
          go_wp2_with fail
          go_ret
          exact ⟨ret_bool (by rw [allB_no (j := k) (by have := HK.out; omega) HNO.out]), HBX.out⟩
      · have hgb : decide (V ≥ 0) = false := decide_eq_false hge
        have HYES : Hid (ok k = true) := by show _ = _; rw [HOKK.out]; exact decide_eq_true (by omega)
        clear HOKK
        go_wp2_with fail
        refine wp_region_vals (by kernel_rfl) (by kernel_rfl) (by kernel_rfl) (by kernel_rfl) (fun j => [.func (.func 41) #[] #[], .slice (some ⟨g, o, none⟩) n cap, .int .i64 q, .int .i64 (k : Int), .pointer (some ⟨g, o + k * 2, none⟩), .agg #[.int .i64 a0, u0], .slice (some ⟨g, o, none⟩) n cap, .int .i64 q, .pointer (some ⟨g, o + q * 2, none⟩), .agg #[.int .i64 b0, u1], .int .i64 V, .bool false].getD j undef) wr (Below.drew (Below.refl _ _)) ?step ⟨#[.slice (some ⟨g, o, none⟩) n cap, .func (.func 41) #[] #[], undef, undef, u4, .int .i64 q, .int .i64 q, .slice (some ⟨g, o, none⟩) n cap, .int .i64 n, .bool true, u10, u11, .func (.func 41) #[] #[], .slice (some ⟨g, o, none⟩) n cap, .int .i64 q, .int .i64 (k : Int), .pointer (some ⟨g, o + k * 2, none⟩), .agg #[.int .i64 a0, u0], .slice (some ⟨g, o, none⟩) n cap, .int .i64 q, .pointer (some ⟨g, o + q * 2, none⟩), .agg #[.int .i64 b0, u1], .int .i64 V, .bool false], []⟩ (by kernel_rfl) ?fin
        case step =>
          intro i o ho ρ y x hBx hdep hout
          rcases i with _ | i
          · obtain rfl := Option.some.inj ho
            have o1 : ρ (.tmp 1) = .func (.func 41) #[] #[] := hout (.tmp 1) rfl
            have ocn : ∀ v, ρ (.const v) = v := fun v => hout (.const v) rfl
            have ofn : ∀ f, ρ (.func f) = .func (.func f) #[] #[] := fun f => hout (.func f) rfl
            clear hdep hout
            refine .inl ⟨?_, ?_⟩
            · rfl
            show Gives _ _ _ (.func (.func 41) #[] #[]) _
            refine Gives.val ?_
            go_simp
          rcases i with _ | i
          · obtain rfl := Option.some.inj ho
            have o0 : ρ (.tmp 0) = .slice (some ⟨g, o, none⟩) n cap := hout (.tmp 0) rfl
            have ocn : ∀ v, ρ (.const v) = v := fun v => hout (.const v) rfl
            have ofn : ∀ f, ρ (.func f) = .func (.func f) #[] #[] := fun f => hout (.func f) rfl
            clear hdep hout
            refine .inl ⟨?_, ?_⟩
            · rfl
            show Gives _ _ _ (.slice (some ⟨g, o, none⟩) n cap) _
            refine Gives.val ?_
            go_simp
          rcases i with _ | i
          · obtain rfl := Option.some.inj ho
            have o5 : ρ (.tmp 5) = .int .i64 q := hout (.tmp 5) rfl
            have ocn : ∀ v, ρ (.const v) = v := fun v => hout (.const v) rfl
            have ofn : ∀ f, ρ (.func f) = .func (.func f) #[] #[] := fun f => hout (.func f) rfl
            clear hdep hout
            refine .inl ⟨?_, ?_⟩
            · rfl
            show Gives _ _ _ (.int .i64 q) _
            refine Gives.val ?_
            go_simp
          rcases i with _ | i
          · obtain rfl := Option.some.inj ho
            have e2 : ρ (.tmp 14) = .int .i64 q := (hdep ⟨2, .data⟩ (by simp) rfl).1 14 rfl
            have ocn : ∀ v, ρ (.const v) = v := fun v => hout (.const v) rfl
            have ofn : ∀ f, ρ (.func f) = .func (.func f) #[] #[] := fun f => hout (.func f) rfl
            clear hdep hout
            refine .inl ⟨?_, ?_⟩
            · rfl
            show Gives _ _ _ (.int .i64 (k : Int)) _
            refine Gives.val ?_
            (rw [← hq1]; go_simp; exact IntWalk.i64_in _ (by omega))
          rcases i with _ | i
          · obtain rfl := Option.some.inj ho
            have e1 : ρ (.tmp 13) = .slice (some ⟨g, o, none⟩) n cap := (hdep ⟨1, .data⟩ (by simp) rfl).1 13 rfl
            have e3 : ρ (.tmp 15) = .int .i64 (k : Int) := (hdep ⟨3, .data⟩ (by simp) rfl).1 15 rfl
            have ocn : ∀ v, ρ (.const v) = v := fun v => hout (.const v) rfl
            have ofn : ∀ f, ρ (.func f) = .func (.func f) #[] #[] := fun f => hout (.func f) rfl
            clear hdep hout
            refine .inl ⟨?_, ?_⟩
            · rfl
            show Gives _ _ _ (.pointer (some ⟨g, o + k * 2, none⟩)) _
            refine Gives.val ?_
            go_simp
          rcases i with _ | i
          · obtain rfl := Option.some.inj ho
            have e4 : ρ (.tmp 16) = .pointer (some ⟨g, o + k * 2, none⟩) := (hdep ⟨4, .data⟩ (by simp) rfl).1 16 rfl
            have ocn : ∀ v, ρ (.const v) = v := fun v => hout (.const v) rfl
            have ofn : ∀ f, ρ (.func f) = .func (.func f) #[] #[] := fun f => hout (.func f) rfl
            clear hdep hout
            refine .inl ⟨?_, ?_⟩
            · rfl
            have c0 := (hBx.cell (p := ⟨g, o + k * 2, none⟩) hgw).trans d0
            have c1 := (hBx.cell (p := ⟨g, o + k * 2 + 1, none⟩) hgw).trans d1
            show Gives _ _ _ (.agg #[.int .i64 a0, u0]) _
            refine Gives.val ?_
            go_simp
          rcases i with _ | i
          · obtain rfl := Option.some.inj ho
            have o0 : ρ (.tmp 0) = .slice (some ⟨g, o, none⟩) n cap := hout (.tmp 0) rfl
            have ocn : ∀ v, ρ (.const v) = v := fun v => hout (.const v) rfl
            have ofn : ∀ f, ρ (.func f) = .func (.func f) #[] #[] := fun f => hout (.func f) rfl
            clear hdep hout
            refine .inl ⟨?_, ?_⟩
            · rfl
            show Gives _ _ _ (.slice (some ⟨g, o, none⟩) n cap) _
            refine Gives.val ?_
            go_simp
          rcases i with _ | i
          · obtain rfl := Option.some.inj ho
            have o5 : ρ (.tmp 5) = .int .i64 q := hout (.tmp 5) rfl
            have ocn : ∀ v, ρ (.const v) = v := fun v => hout (.const v) rfl
            have ofn : ∀ f, ρ (.func f) = .func (.func f) #[] #[] := fun f => hout (.func f) rfl
            clear hdep hout
            refine .inl ⟨?_, ?_⟩
            · rfl
            show Gives _ _ _ (.int .i64 q) _
            refine Gives.val ?_
            go_simp
          rcases i with _ | i
          · obtain rfl := Option.some.inj ho
            have e6 : ρ (.tmp 18) = .slice (some ⟨g, o, none⟩) n cap := (hdep ⟨6, .data⟩ (by simp) rfl).1 18 rfl
            have e7 : ρ (.tmp 19) = .int .i64 q := (hdep ⟨7, .data⟩ (by simp) rfl).1 19 rfl
            have ocn : ∀ v, ρ (.const v) = v := fun v => hout (.const v) rfl
            have ofn : ∀ f, ρ (.func f) = .func (.func f) #[] #[] := fun f => hout (.func f) rfl
            clear hdep hout
            refine .inl ⟨?_, ?_⟩
            · rfl
            show Gives _ _ _ (.pointer (some ⟨g, o + q * 2, none⟩)) _
            refine Gives.val ?_
            go_simp
          rcases i with _ | i
          · obtain rfl := Option.some.inj ho
            have e8 : ρ (.tmp 20) = .pointer (some ⟨g, o + q * 2, none⟩) := (hdep ⟨8, .data⟩ (by simp) rfl).1 20 rfl
            have ocn : ∀ v, ρ (.const v) = v := fun v => hout (.const v) rfl
            have ofn : ∀ f, ρ (.func f) = .func (.func f) #[] #[] := fun f => hout (.func f) rfl
            clear hdep hout
            refine .inl ⟨?_, ?_⟩
            · rfl
            have c0 := (hBx.cell (p := ⟨g, o + q * 2, none⟩) hgw).trans e0
            have c1 := (hBx.cell (p := ⟨g, o + q * 2 + 1, none⟩) hgw).trans e1
            show Gives _ _ _ (.agg #[.int .i64 b0, u1]) _
            refine Gives.val ?_
            go_simp
          rcases i with _ | i
          · obtain rfl := Option.some.inj ho
            have e0 : ρ (.tmp 12) = .func (.func 41) #[] #[] := (hdep ⟨0, .data⟩ (by simp) rfl).1 12 rfl
            have e5 : ρ (.tmp 17) = .agg #[.int .i64 a0, u0] := (hdep ⟨5, .data⟩ (by simp) rfl).1 17 rfl
            have e9 : ρ (.tmp 21) = .agg #[.int .i64 b0, u1] := (hdep ⟨9, .data⟩ (by simp) rfl).1 21 rfl
            have ocn : ∀ v, ρ (.const v) = v := fun v => hout (.const v) rfl
            have ofn : ∀ f, ρ (.func f) = .func (.func f) #[] #[] := fun f => hout (.func f) rfl
            clear hdep hout
            refine .inl ⟨?_, ?_⟩
            · rfl
            show Gives _ _ _ (.int .i64 V) _
            refine Gives.call (HC.out x) ?_
            go_simp
          rcases i with _ | i
          · obtain rfl := Option.some.inj ho
            have e10 : ρ (.tmp 22) = .int .i64 V := (hdep ⟨10, .data⟩ (by simp) rfl).1 22 rfl
            have ocn : ∀ v, ρ (.const v) = v := fun v => hout (.const v) rfl
            have ofn : ∀ f, ρ (.func f) = .func (.func f) #[] #[] := fun f => hout (.func f) rfl
            clear hdep hout
            refine .inl ⟨?_, ?_⟩
            · rfl
            show Gives _ _ _ (.bool false) _
            refine Gives.val ?_
            go_simp
          cases ho
        case fin =>
          intro x hBx
          have HBX : Hid (Below x0.heap.size x0 x) := HBW.out.trans (hBx.mono HBW.out.size)
          go_wp2_with fail
          go_roundw
          case rel => exact ⟨q, .inl (by have := HK.out; omega), by go_num, HBX.out, fun j hj => by rcases (by omega : j < k ∨ j = k) with h | rfl; exact hd.out j h; exact HYES.out⟩
          case measure => simp [intOf]; have := HK.out; omega
    · have hki : ¬ ((k + 1 : Nat) : Int) < (n : Int) := by omega
      have HE : Hid (allB ok (n - 1) = true) := allB_yes fun j hj => hd.out j (by omega)
      clear hd HOK
      go_wp2_with fail
      go_ret
      exact ⟨ret_bool HE.out.symm, hB⟩

end Go.Proofs.YtlkebkajdlgebaaGreat

/-
  Whether sums are ok: the contract of the program's SumsOk, given one of callsOf.
-/
namespace Go.Proofs.YtlkebkajdlgebaaGreat
open Go.RowKit
set_option linter.unusedVariables false
set_option linter.unusedSimpArgs false

def sumsF (P : List (List I4)) (Q : Nat → Int → Bool) (M : List Sm) : Bool := allB (fun j => sumF P Q (M.getD j sm0)) M.length && allB (sumLt M) (M.length - 1)
set_option maxRecDepth 100000 in
set_option maxHeartbeats 4000000 in
theorem sumsOk_impl (x0 : World) (B : Nat) (v : Value) (P : List (List I4)) (h : ProgAt x0 B v P) (M : List Sm) (u : Value) (hs : SmsAt x0 u M) (Q : Nat → Int → Bool) (HC : progOkF P = true → ∀ k, k < P.length → CallsOfIs B (P.getD k []) (Q k)) :
    Calls Tryz.prog 18 #[v, u] x0 fun e y => e = .returned (.bool (progOkF P && sumsF P Q M)) ∧ Below x0.heap.size x0 y := by
  obtain ⟨pp, cp, rfl, _⟩ := h.shape
  obtain ⟨ps, cs, rfl, hm⟩ := hs.shape
  unfold maxLen at hm
  have hni : (M.length : Int) ≤ 9223372036854775807 := by omega
  have HP : Hid (ProgAt x0 B (.slice pp P.length cp) P) := h
  have HS : Hid (SmsAt x0 (.slice ps M.length cs) M) := hs
  have HCC : Hid (progOkF P = true → ∀ k, k < P.length → CallsOfIs B (P.getD k []) (Q k)) := HC
  have HF : Hid (sumsF P Q M = (allB (fun j => sumF P Q (M.getD j sm0)) M.length && allB (sumLt M) (M.length - 1))) := rfl
  generalize sumsF P Q M = F at HF ⊢
  clear h hs HC hm
  generalize hG : (fun j => sumF P Q (M.getD j sm0)) = G at HF
  have HG : Hid (∀ j, sumF P Q (M.getD j sm0) = G j) := by show ∀ j, _; intro j; rw [← hG]
  clear hG
  generalize hn : M.length = n at *
  have HN : Hid (M.length = n) := hn
  clear hn
  go_enter Tryz.func18, Tryz.ntmps18
  go_wp2_with fail
  refine (progOk_impl x0 B _ P HP.out).mono ?_
  rintro e y ⟨rfl, hb⟩
  have HY : Hid (Below x0.heap.size x0 y) := hb
  clear hb
  cases hok : progOkF P
  · go_wp2_with fail
    go_ret
    exact ⟨ret_bool (by rw [hok]; rfl), HY.out⟩
  · have HOK : Hid (progOkF P = true) := hok
    clear hok
    go_wp2_with fail
    go_loopw [12] (fun t z => ∃ k : Nat, k ≤ n ∧ t = .int .i64 k ∧ Hid (Below x0.heap.size x0 z) ∧ Hid (∀ j, j < k → G j = true)) (fun t _ => n - (intOf t).toNat)
    case atStart => exact ⟨0, by omega, rfl, HY.out, fun j hj => by omega⟩
    case round =>
      obtain ⟨k, hk, rfl, HB, hd⟩ := hrel
      by_cases hlt : k < n
      · have HS2 : SmsAt x0 (.slice ps M.length cs) M := by rw [HN.out]; exact HS.out
        obtain ⟨g, o, rfl, hgx, hr⟩ := HS2.sum (j := k) (by rw [HN.out]; omega)
        have hki : (k : Int) < (n : Int) := by omega
        have hgw : g < wr.heap.size := Nat.lt_of_lt_of_le hgx HB.out.size
        obtain ⟨d0, ⟨u0, d1, hR⟩⟩ := hr.later HB.out hgx
        have HGk := HG.out k
        generalize M.getD k sm0 = s at *
        have HGK : Hid (sumF P Q s = G k) := HGk
        obtain ⟨pr, cr, rfl, _⟩ := hR.shape
        have HR : Hid (RowsAt wr (.slice pr s.R.length cr) s.R) := hR
        clear HGk hR hr HS2 hgx
        go_wp2_with fail
        have HX : Hid (Below x0.heap.size x0 (wr.alloc (.cells #[.int .i64 s.p, .slice pr s.R.length cr] 33)) ∧ Below wr.heap.size wr (wr.alloc (.cells #[.int .i64 s.p, .slice pr s.R.length cr] 33))) := ⟨HB.out.alloc HB.out.size _, (Below.refl _ _).alloc (Nat.le_refl _) _⟩
        generalize wr.alloc (.cells #[.int .i64 s.p, .slice pr s.R.length cr] 33) = X at HX ⊢
        refine (sumOk_of X B _ P (HP.out.later HX.out.1) HOK.out s _ (HR.out.later HX.out.2) Q (HCC.out HOK.out)).mono ?_
        rintro e z ⟨rfl, hb⟩
        have HZ : Hid (Below x0.heap.size x0 z) := HX.out.1.trans (hb.mono HX.out.1.size)
        clear hb HX
        rw [HGK.out]
        cases hg2 : G k
        · have HNO : Hid (allB G n = false) := allB_no hlt hg2
          clear hg2
          go_wp2_with fail
          go_ret
          exact ⟨ret_bool (by rw [HOK.out, HF.out, HNO.out]; rfl), HZ.out⟩
        · have HGT : Hid (G k = true) := hg2
          clear hg2
          go_wp2_with fail
          go_roundw
          case rel =>
            refine ⟨k + 1, by omega, by go_num, HZ, fun j hj => ?_⟩
            rcases (by omega : j < k ∨ j = k) with hjk | rfl
            · exact hd.out j hjk
            · exact HGT.out
          case measure => simp [intOf]; omega
      · obtain rfl : k = n := by omega
        have hki : ¬ (k : Int) < (k : Int) := by omega
        have HE : Hid (allB G k = true) := allB_yes hd.out
        go_wp2_with fail
        refine (ascendSumS_any _ _ M (HS.out.later HB.out)).mono ?_
        rintro e z ⟨rfl, hb⟩
        rw [HN.out]
        go_wp2_with fail
        go_ret
        exact ⟨ret_bool (by rw [HOK.out, HF.out, HE.out]; rfl), HB.out.trans (hb.mono HB.out.size)⟩

end Go.Proofs.YtlkebkajdlgebaaGreat
