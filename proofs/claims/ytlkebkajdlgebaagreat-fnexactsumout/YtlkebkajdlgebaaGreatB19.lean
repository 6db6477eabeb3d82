import Derived.Test.YtlkebkajdlgebaaGreatB18
import Derived.Test.YtlkebkajdlgebaaGreatB17
import Derived.Test.YtlkebkajdlgebaaGreatB5
/-
  Whether sites, calls are in their order: the contracts of ascend[Site], ascend[Call].
-/
namespace Go.Proofs.YtlkebkajdlgebaaGreat
open Go.RowKit
set_option linter.unusedVariables false
set_option linter.unusedSimpArgs false

/-- the first n of ok are all true -/
def allB (ok : Nat → Bool) (n : Nat) : Bool := (List.range n).all ok
theorem allB_yes {ok : Nat → Bool} {n : Nat} (h : ∀ j, j < n → ok j = true) : allB ok n = true := by
  unfold allB
  rw [List.all_eq_true]
  exact fun j hj => h j (by simpa using hj)
theorem allB_no {ok : Nat → Bool} {n j : Nat} (hj : j < n) (h : ok j = false) : allB ok n = false := by
  unfold allB
  rw [List.all_eq_false]
  exact ⟨j, by simpa using hj, by simp [h]⟩
def siteO (S : Nat → Int) (i j : Nat) : Int := orF (cmpF (S (i * 3)) (S (j * 3))) (cmpF (S (i * 3 + 1)) (S (j * 3 + 1)))
def callO (S : Nat → Int) (i j : Nat) : Int := orF (cmpF (S (i * 2)) (S (j * 2))) (cmpF (S (i * 2 + 1)) (S (j * 2 + 1)))
set_option maxRecDepth 100000 in
set_option maxHeartbeats 4000000 in
theorem ascendSiteS_any (x0 : World) (v : Value) (n : Nat) (N : Nat → Int) (h : IRowW 3 x0 v n N) :
    Calls Tryz.prog 106 #[v, .func (.func 107) #[] #[]] x0 fun e y => e = .returned (.bool (allB (fun j => decide (siteO N j (j + 1) < 0)) (n - 1))) ∧ Below x0.heap.size x0 y := by
  obtain ⟨p, cap, rfl, hm, hc⟩ := h
  unfold maxLen at hm
  have hni : (n : Int) ≤ 9223372036854775807 := by omega
  clear hm
  have HF : ∃ ok : Nat → Int → Bool, True := ⟨fun _ _ => true, trivial⟩
  clear HF
  generalize hOK : (fun j => decide (siteO N j (j + 1) < 0)) = ok
  have HOK : Hid (∀ j, ok j = decide (siteO N j (j + 1) < 0)) := by show ∀ j, _; intro j; rw [← hOK]
  clear hOK
  go_enter Tryz.func106, Tryz.ntmps106
  go_wp2_with fail
  go_loopw [5] (fun t y => ∃ k : Nat, (k + 1 ≤ n ∨ k = 0) ∧ t = .int .i64 ((k + 1 : Nat) : Int) ∧ Below x0.heap.size x0 y ∧ Hid (∀ j, j < k → ok j = true)) (fun t _ => n + 1 - (intOf t).toNat)
  case atStart => exact ⟨0, .inr rfl, rfl, Below.refl _ _, fun j hj => by omega⟩
  case round =>
    obtain ⟨k, hk, rfl, hB, hd⟩ := hrel
    by_cases hlt : k + 1 < n
    · rcases hc with h0 | ⟨g, o, rfl, hBg, hgE, hEx, _, hins⟩
      · omega
      have hgx : g < x0.heap.size := by omega
      have hki : ((k + 1 : Nat) : Int) < (n : Int) := by omega
      have hkn : (k : Int) < (n : Int) := by omega
      have hok := HOK.out k
      unfold siteO at hok
      have d0 := (hB.cell (p := ⟨g, o + (k * 3), none⟩) hgx).trans (hins (k * 3) (by omega))
      have d1 := (hB.cell (p := ⟨g, o + (k * 3 + 1), none⟩) hgx).trans (hins (k * 3 + 1) (by omega))
      have d2 := (hB.cell (p := ⟨g, o + (k * 3 + 2), none⟩) hgx).trans (hins (k * 3 + 2) (by omega))
      have e0 := (hB.cell (p := ⟨g, o + ((k + 1) * 3), none⟩) hgx).trans (hins ((k + 1) * 3) (by omega))
      have e1 := (hB.cell (p := ⟨g, o + ((k + 1) * 3 + 1), none⟩) hgx).trans (hins ((k + 1) * 3 + 1) (by omega))
      have e2 := (hB.cell (p := ⟨g, o + ((k + 1) * 3 + 2), none⟩) hgx).trans (hins ((k + 1) * 3 + 2) (by omega))
      rw [← Nat.add_assoc] at d1 e1 d2 e2
      clear hins
      generalize N (k * 3 + 2) = a2 at *
      generalize N (k * 3 + 1) = a1 at *
      generalize N (k * 3) = a0 at *
      generalize N ((k + 1) * 3 + 2) = b2 at *
      generalize N ((k + 1) * 3 + 1) = b1 at *
      generalize N ((k + 1) * 3) = b0 at *
      have HBW : Hid (Below x0.heap.size x0 wr) := hB
      have HOKK : Hid (ok k = decide (orF (cmpF a0 b0) (cmpF a1 b1) < 0)) := hok
      clear hok
      generalize hV : orF (cmpF a0 b0) (cmpF a1 b1) = V at HOKK
      have HV : Hid (orF (cmpF a0 b0) (cmpF a1 b1) = V) := hV
      clear hV
      have hgw : g < wr.heap.size := Nat.lt_of_lt_of_le hgx hB.size
      have HK : Hid (k + 1 < n) := hlt
      clear hB hk hlt hgx hgE hEx hBg
      have hk1 : 0 ≤ ((k + 1 : Nat) : Int) - 1 := by omega
      generalize hq : k + 1 = q at *
      have hq1 : (q : Int) - 1 = (k : Int) := by omega
      have HC : Hid (∀ z : World, Calls Tryz.prog 107 #[.agg #[.int .i64 a0, .int .i64 a1, .int .i64 a2], .agg #[.int .i64 b0, .int .i64 b1, .int .i64 b2]] z fun e y => e = .returned (.int .i64 V) ∧ Below z.heap.size z y) := by
        show ∀ z, _
        intro z
        rw [← HV.out]
        exact siteOrder_any (a0, a1, a2) (b0, b1, b2) z
      clear HV
      have hge : (V ≥ 0) ∨ ¬ (V ≥ 0) := by omega
      rcases hge with hge | hge
      · have hgb : decide (V ≥ 0) = true := decide_eq_true hge
        have HNO : Hid (ok k = false) := by show _ = _; rw [HOKK.out]; exact decide_eq_false (by omega)
        clear HOKK
        go_wp2_with fail
        refine wp_region_vals (by kernel_rfl) (by kernel_rfl) (by kernel_rfl) (by kernel_rfl) (fun j => [.func (.func 107) #[] #[], .slice (some ⟨g, o, none⟩) n cap, .int .i64 q, .int .i64 (k : Int), .pointer (some ⟨g, o + k * 3, none⟩), .agg #[.int .i64 a0, .int .i64 a1, .int .i64 a2], .slice (some ⟨g, o, none⟩) n cap, .int .i64 q, .pointer (some ⟨g, o + q * 3, none⟩), .agg #[.int .i64 b0, .int .i64 b1, .int .i64 b2], .int .i64 V, .bool true].getD j undef) wr (Below.drew (Below.refl _ _)) ?step ⟨#[.slice (some ⟨g, o, none⟩) n cap, .func (.func 107) #[] #[], undef, undef, u4, .int .i64 q, .int .i64 q, .slice (some ⟨g, o, none⟩) n cap, .int .i64 n, .bool true, u10, u11, .func (.func 107) #[] #[], .slice (some ⟨g, o, none⟩) n cap, .int .i64 q, .int .i64 (k : Int), .pointer (some ⟨g, o + k * 3, none⟩), .agg #[.int .i64 a0, .int .i64 a1, .int .i64 a2], .slice (some ⟨g, o, none⟩) n cap, .int .i64 q, .pointer (some ⟨g, o + q * 3, none⟩), .agg #[.int .i64 b0, .int .i64 b1, .int .i64 b2], .int .i64 V, .bool true], []⟩ (by kernel_rfl) ?fin
        case step =>
          intro i o ho ρ y x hBx hdep hout
          rcases i with _ | i
          · obtain rfl := Option.some.inj ho
            have o1 : ρ (.tmp 1) = .func (.func 107) #[] #[] := hout (.tmp 1) rfl
            have ocn : ∀ v, ρ (.const v) = v := fun v => hout (.const v) rfl
            have ofn : ∀ f, ρ (.func f) = .func (.func f) #[] #[] := fun f => hout (.func f) rfl
            clear hdep hout
            refine .inl ⟨?_, ?_⟩
            · rfl
            show Gives _ _ _ (.func (.func 107) #[] #[]) _
            refine Gives.val ?_
            go_simp
          rcases i with _ | i
          · obtain rfl := Option.some.inj ho
            have o0 : ρ (.tmp 0) = .slice (some ⟨g, o, none⟩) n cap := hout (.tmp 0) rfl
            have ocn : ∀ v, ρ (.const v) = v := fun v => hout (.const v) rfl
            have ofn : ∀ f, ρ (.func f) = .func (.func f) #[] #[] := fun f => hout (.func f) rfl
            clear hdep hout
            refine .inl ⟨?_, ?_⟩
            · rfl
            show Gives _ _ _ (.slice (some ⟨g, o, none⟩) n cap) _
            refine Gives.val ?_
            go_simp
          rcases i with _ | i
          · obtain rfl := Option.some.inj ho
            have o5 : ρ (.tmp 5) = .int .i64 q := hout (.tmp 5) rfl
            have ocn : ∀ v, ρ (.const v) = v := fun v => hout (.const v) rfl
            have ofn : ∀ f, ρ (.func f) = .func (.func f) #[] #[] := fun f => hout (.func f) rfl
            clear hdep hout
            refine .inl ⟨?_, ?_⟩
            · rfl
            show Gives _ _ _ (.int .i64 q) _
            refine Gives.val ?_
            go_simp
          rcases i with _ | i
          · obtain rfl := Option.some.inj ho
            have e2 : ρ (.tmp 14) = .int .i64 q := (hdep ⟨2, .data⟩ (by simp) rfl).1 14 rfl
            have ocn : ∀ v, ρ (.const v) = v := fun v => hout (.const v) rfl
            have ofn : ∀ f, ρ (.func f) = .func (.func f) #[] #[] := fun f => hout (.func f) rfl
            clear hdep hout
            refine .inl ⟨?_, ?_⟩
            · rfl
            show Gives _ _ _ (.int .i64 (k : Int)) _
            refine Gives.val ?_
            (rw [← hq1]; go_simp; exact IntWalk.i64_in _ (by omega))
          rcases i with _ | i
          · obtain rfl := Option.some.inj ho
            have e1 : ρ (.tmp 13) = .slice (some ⟨g, o, none⟩) n cap := (hdep ⟨1, .data⟩ (by simp) rfl).1 13 rfl
            have e3 : ρ (.tmp 15) = .int .i64 (k : Int) := (hdep ⟨3, .data⟩ (by simp) rfl).1 15 rfl
            have ocn : ∀ v, ρ (.const v) = v := fun v => hout (.const v) rfl
            have ofn : ∀ f, ρ (.func f) = .func (.func f) #[] #[] := fun f => hout (.func f) rfl
            clear hdep hout
            refine .inl ⟨?_, ?_⟩
            · rfl
            show Gives _ _ _ (.pointer (some ⟨g, o + k * 3, none⟩)) _
            refine Gives.val ?_
            go_simp
          rcases i with _ | i
          · obtain rfl := Option.some.inj ho
            have e4 : ρ (.tmp 16) = .pointer (some ⟨g, o + k * 3, none⟩) := (hdep ⟨4, .data⟩ (by simp) rfl).1 16 rfl
            have ocn : ∀ v, ρ (.const v) = v := fun v => hout (.const v) rfl
            have ofn : ∀ f, ρ (.func f) = .func (.func f) #[] #[] := fun f => hout (.func f) rfl
            clear hdep hout
            refine .inl ⟨?_, ?_⟩
            · rfl
            have c0 := (hBx.cell (p := ⟨g, o + k * 3, none⟩) hgw).trans d0
            have c1 := (hBx.cell (p := ⟨g, o + k * 3 + 1, none⟩) hgw).trans d1
            have c2 := (hBx.cell (p := ⟨g, o + k * 3 + 2, none⟩) hgw).trans d2
            show Gives _ _ _ (.agg #[.int .i64 a0, .int .i64 a1, .int .i64 a2]) _
            refine Gives.val ?_
            go_simp
          rcases i with _ | i
          · obtain rfl := Option.some.inj ho
            have o0 : ρ (.tmp 0) = .slice (some ⟨g, o, none⟩) n cap := hout (.tmp 0) rfl
            have ocn : ∀ v, ρ (.const v) = v := fun v => hout (.const v) rfl
            have ofn : ∀ f, ρ (.func f) = .func (.func f) #[] #[] := fun f => hout (.func f) rfl
            clear hdep hout
            refine .inl ⟨?_, ?_⟩
            · rfl
            show Gives _ _ _ (.slice (some ⟨g, o, none⟩) n cap) _
            refine Gives.val ?_
            go_simp
          rcases i with _ | i
          · obtain rfl := Option.some.inj ho
            have o5 : ρ (.tmp 5) = .int .i64 q := hout (.tmp 5) rfl
            have ocn : ∀ v, ρ (.const v) = v := fun v => hout (.const v) rfl
            have ofn : ∀ f, ρ (.func f) = .func (.func f) #[] #[] := fun f => hout (.func f) rfl
            clear hdep hout
            refine .inl ⟨?_, ?_⟩
            · rfl
            show Gives _ _ _ (.int .i64 q) _
            refine Gives.val ?_
            go_simp
          rcases i with _ | i
          · obtain rfl := Option.some.inj ho
            have e6 : ρ (.tmp 18) = .slice (some ⟨g, o, none⟩) n cap := (hdep ⟨6, .data⟩ (by simp) rfl).1 18 rfl
            have e7 : ρ (.tmp 19) = .int .i64 q := (hdep ⟨7, .data⟩ (by simp) rfl).1 19 rfl
            have ocn : ∀ v, ρ (.const v) = v := fun v => hout (.const v) rfl
            have ofn : ∀ f, ρ (.func f) = .func (.func f) #[] #[] := fun f => hout (.func f) rfl
            clear hdep hout
            refine .inl ⟨?_, ?_⟩
            · rfl
            show Gives _ _ _ (.pointer (some ⟨g, o + q * 3, none⟩)) _
            refine Gives.val ?_
            go_simp
          rcases i with _ | i
          · obtain rfl := Option.some.inj ho
            have e8 : ρ (.tmp 20) = .pointer (some ⟨g, o + q * 3, none⟩) := (hdep ⟨8, .data⟩ (by simp) rfl).1 20 rfl
            have ocn : ∀ v, ρ (.const v) = v := fun v => hout (.const v) rfl
            have ofn : ∀ f, ρ (.func f) = .func (.func f) #[] #[] := fun f => hout (.func f) rfl
            clear hdep hout
            refine .inl ⟨?_, ?_⟩
            · rfl
            have c0 := (hBx.cell (p := ⟨g, o + q * 3, none⟩) hgw).trans e0
            have c1 := (hBx.cell (p := ⟨g, o + q * 3 + 1, none⟩) hgw).trans e1
            have c2 := (hBx.cell (p := ⟨g, o + q * 3 + 2, none⟩) hgw).trans e2
            show Gives _ _ _ (.agg #[.int .i64 b0, .int .i64 b1, .int .i64 b2]) _
            refine Gives.val ?_
            go_simp
          rcases i with _ | i
          · obtain rfl := Option.some.inj ho
            have e0 : ρ (.tmp 12) = .func (.func 107) #[] #[] := (hdep ⟨0, .data⟩ (by simp) rfl).1 12 rfl
            have e5 : ρ (.tmp 17) = .agg #[.int .i64 a0, .int .i64 a1, .int .i64 a2] := (hdep ⟨5, .data⟩ (by simp) rfl).1 17 rfl
            have e9 : ρ (.tmp 21) = .agg #[.int .i64 b0, .int .i64 b1, .int .i64 b2] := (hdep ⟨9, .data⟩ (by simp) rfl).1 21 rfl
            have ocn : ∀ v, ρ (.const v) = v := fun v => hout (.const v) rfl
            have ofn : ∀ f, ρ (.func f) = .func (.func f) #[] #[] := fun f => hout (.func f) rfl
            clear hdep hout
            refine .inl ⟨?_, ?_⟩
            · rfl
            show Gives _ _ _ (.int .i64 V) _
            refine Gives.call (HC.out x) ?_
            go_simp
          rcases i with _ | i
          · obtain rfl := Option.some.inj ho
            have e10 : ρ (.tmp 22) = .int .i64 V := (hdep ⟨10, .data⟩ (by simp) rfl).1 22 rfl
            have ocn : ∀ v, ρ (.const v) = v := fun v => hout (.const v) rfl
            have ofn : ∀ f, ρ (.func f) = .func (.func f) #[] #[] := fun f => hout (.func f) rfl
            clear hdep hout
            refine .inl ⟨?_, ?_⟩
            · rfl
            show Gives _ _ _ (.bool true) _
            refine Gives.val ?_
            go_simp
          cases ho
        case fin =>
          intro x hBx
          have HBX : Hid (Below x0.heap.size x0 x) := HBW.out.trans (hBx.mono HBW.out.size)
          go_wp2_with fail
          go_ret
          exact ⟨ret_bool (by rw [allB_no (j := k) (by have := HK.out; omega) HNO.out]), HBX.out⟩
      · have hgb : decide (V ≥ 0) = false := decide_eq_false hge
        have HYES : Hid (ok k = true) := by show _ = _; rw [HOKK.out]; exact decide_eq_true (by omega)
        clear HOKK
        go_wp2_with fail
        refine wp_region_vals (by kernel_rfl) (by kernel_rfl) (by kernel_rfl) (by kernel_rfl) (fun j => [.func (.func 107) #[] #[], .slice (some ⟨g, o, none⟩) n cap, .int .i64 q, .int .i64 (k : Int), .pointer (some ⟨g, o + k * 3, none⟩), .agg #[.int .i64 a0, .int .i64 a1, .int .i64 a2], .slice (some ⟨g, o, none⟩) n cap, .int .i64 q, .pointer (some ⟨g, o + q * 3, none⟩), .agg #[.int .i64 b0, .int .i64 b1, .int .i64 b2], .int .i64 V, .bool false].getD j undef) wr (Below.drew (Below.refl _ _)) ?step ⟨#[.slice (some ⟨g, o, none⟩) n cap, .func (.func 107) #[] #[], undef, undef, u4, .int .i64 q, .int .i64 q, .slice (some ⟨g, o, none⟩) n cap, .int .i64 n, .bool true, u10, u11, .func (.func 107) #[] #[], .slice (some ⟨g, o, none⟩) n cap, .int .i64 q, .int .i64 (k : Int), .pointer (some ⟨g, o + k * 3, none⟩), .agg #[.int .i64 a0, .int .i64 a1, .int .i64 a2], .slice (some ⟨g, o, none⟩) n cap, .int .i64 q, .pointer (some ⟨g, o + q * 3, none⟩), .agg #[.int .i64 b0, .int .i64 b1, .int .i64 b2], .int .i64 V, .bool false], []⟩ (by kernel_rfl) ?fin
        case step =>
          intro i o ho ρ y x hBx hdep hout
          rcases i with _ | i
          · obtain rfl := Option.some.inj ho
            have o1 : ρ (.tmp 1) = .func (.func 107) #[] #[] := hout (.tmp 1) rfl
            have ocn : ∀ v, ρ (.const v) = v := fun v => hout (.const v) rfl
            have ofn : ∀ f, ρ (.func f) = .func (.func f) #[] #[] := fun f => hout (.func f) rfl
            clear hdep hout
            refine .inl ⟨?_, ?_⟩
            · rfl
            show Gives _ _ _ (.func (.func 107) #[] #[]) _
            refine Gives.val ?_
            go_simp
          rcases i with _ | i
          · obtain rfl := Option.some.inj ho
            have o0 : ρ (.tmp 0) = .slice (some ⟨g, o, none⟩) n cap := hout (.tmp 0) rfl
            have ocn : ∀ v, ρ (.const v) = v := fun v => hout (.const v) rfl
            have ofn : ∀ f, ρ (.func f) = .func (.func f) #[] #[] := fun f => hout (.func f) rfl
            clear hdep hout
            refine .inl ⟨?_, ?_⟩
            · rfl
            show Gives _ _ _ (.slice (some ⟨g, o, none⟩) n cap) _
            refine Gives.val ?_
            go_simp
          rcases i with _ | i
          · obtain rfl := Option.some.inj ho
            have o5 : ρ (.tmp 5) = .int .i64 q := hout (.tmp 5) rfl
            have ocn : ∀ v, ρ (.const v) = v := fun v => hout (.const v) rfl
            have ofn : ∀ f, ρ (.func f) = .func (.func f) #[] #[] := fun f => hout (.func f) rfl
            clear hdep hout
            refine .inl ⟨?_, ?_⟩
            · rfl
            show Gives _ _ _ (.int .i64 q) _
            refine Gives.val ?_
            go_simp
          rcases i with _ | i
          · obtain rfl := Option.some.inj ho
            have e2 : ρ (.tmp 14) = .int .i64 q := (hdep ⟨2, .data⟩ (by simp) rfl).1 14 rfl
            have ocn : ∀ v, ρ (.const v) = v := fun v => hout (.const v) rfl
            have ofn : ∀ f, ρ (.func f) = .func (.func f) #[] #[] := fun f => hout (.func f) rfl
            clear hdep hout
            refine .inl ⟨?_, ?_⟩
            · rfl
            show Gives _ _ _ (.int .i64 (k : Int)) _
            refine Gives.val ?_
            (rw [← hq1]; go_simp; exact IntWalk.i64_in _ (by omega))
          rcases i with _ | i
          · obtain rfl := Option.some.inj ho
            have e1 : ρ (.tmp 13) = .slice (some ⟨g, o, none⟩) n cap := (hdep ⟨1, .data⟩ (by simp) rfl).1 13 rfl
            have e3 : ρ (.tmp 15) = .int .i64 (k : Int) := (hdep ⟨3, .data⟩ (by simp) rfl).1 15 rfl
            have ocn : ∀ v, ρ (.const v) = v := fun v => hout (.const v) rfl
            have ofn : ∀ f, ρ (.func f) = .func (.func f) #[] #[] := fun f => hout (.func f) rfl
            clear hdep hout
            refine .inl ⟨?_, ?_⟩
            · rfl
            show Gives _ _ _ (.pointer (some ⟨g, o + k * 3, none⟩)) _
            refine Gives.val ?_
            go_simp
          rcases i with _ | i
          · obtain rfl := Option.some.inj ho
            have e4 : ρ (.tmp 16) = .pointer (some ⟨g, o + k * 3, none⟩) := (hdep ⟨4, .data⟩ (by simp) rfl).1 16 rfl
            have ocn : ∀ v, ρ (.const v) = v := fun v => hout (.const v) rfl
            have ofn : ∀ f, ρ (.func f) = .func (.func f) #[] #[] := fun f => hout (.func f) rfl
            clear hdep hout
            refine .inl ⟨?_, ?_⟩
            · rfl
            have c0 := (hBx.cell (p := ⟨g, o + k * 3, none⟩) hgw).trans d0
            have c1 := (hBx.cell (p := ⟨g, o + k * 3 + 1, none⟩) hgw).trans d1
            have c2 := (hBx.cell (p := ⟨g, o + k * 3 + 2, none⟩) hgw).trans d2
            show Gives _ _ _ (.agg #[.int .i64 a0, .int .i64 a1, .int .i64 a2]) _
            refine Gives.val ?_
            go_simp
          rcases i with _ | i
          · obtain rfl := Option.some.inj ho
            have o0 : ρ (.tmp 0) = .slice (some ⟨g, o, none⟩) n cap := hout (.tmp 0) rfl
            have ocn : ∀ v, ρ (.const v) = v := fun v => hout (.const v) rfl
            have ofn : ∀ f, ρ (.func f) = .func (.func f) #[] #[] := fun f => hout (.func f) rfl
            clear hdep hout
            refine .inl ⟨?_, ?_⟩
            · rfl
            show Gives _ _ _ (.slice (some ⟨g, o, none⟩) n cap) _
            refine Gives.val ?_
            go_simp
          rcases i with _ | i
          · obtain rfl := Option.some.inj ho
            have o5 : ρ (.tmp 5) = .int .i64 q := hout (.tmp 5) rfl
            have ocn : ∀ v, ρ (.const v) = v := fun v => hout (.const v) rfl
            have ofn : ∀ f, ρ (.func f) = .func (.func f) #[] #[] := fun f => hout (.func f) rfl
            clear hdep hout
            refine .inl ⟨?_, ?_⟩
            · rfl
            show Gives _ _ _ (.int .i64 q) _
            refine Gives.val ?_
            go_simp
          rcases i with _ | i
          · obtain rfl := Option.some.inj ho
            have e6 : ρ (.tmp 18) = .slice (some ⟨g, o, none⟩) n cap := (hdep ⟨6, .data⟩ (by simp) rfl).1 18 rfl
            have e7 : ρ (.tmp 19) = .int .i64 q := (hdep ⟨7, .data⟩ (by simp) rfl).1 19 rfl
            have ocn : ∀ v, ρ (.const v) = v := fun v => hout (.const v) rfl
            have ofn : ∀ f, ρ (.func f) = .func (.func f) #[] #[] := fun f => hout (.func f) rfl
            clear hdep hout
            refine .inl ⟨?_, ?_⟩
            · rfl
            show Gives _ _ _ (.pointer (some ⟨g, o + q * 3, none⟩)) _
            refine Gives.val ?_
            go_simp
          rcases i with _ | i
          · obtain rfl := Option.some.inj ho
            have e8 : ρ (.tmp 20) = .pointer (some ⟨g, o + q * 3, none⟩) := (hdep ⟨8, .data⟩ (by simp) rfl).1 20 rfl
            have ocn : ∀ v, ρ (.const v) = v := fun v => hout (.const v) rfl
            have ofn : ∀ f, ρ (.func f) = .func (.func f) #[] #[] := fun f => hout (.func f) rfl
            clear hdep hout
            refine .inl ⟨?_, ?_⟩
            · rfl
            have c0 := (hBx.cell (p := ⟨g, o + q * 3, none⟩) hgw).trans e0
            have c1 := (hBx.cell (p := ⟨g, o + q * 3 + 1, none⟩) hgw).trans e1
            have c2 := (hBx.cell (p := ⟨g, o + q * 3 + 2, none⟩) hgw).trans e2
            show Gives _ _ _ (.agg #[.int .i64 b0, .int .i64 b1, .int .i64 b2]) _
            refine Gives.val ?_
            go_simp
          rcases i with _ | i
          · obtain rfl := Option.some.inj ho
            have e0 : ρ (.tmp 12) = .func (.func 107) #[] #[] := (hdep ⟨0, .data⟩ (by simp) rfl).1 12 rfl
            have e5 : ρ (.tmp 17) = .agg #[.int .i64 a0, .int .i64 a1, .int .i64 a2] := (hdep ⟨5, .data⟩ (by simp) rfl).1 17 rfl
            have e9 : ρ (.tmp 21) = .agg #[.int .i64 b0, .int .i64 b1, .int .i64 b2] := (hdep ⟨9, .data⟩ (by simp) rfl).1 21 rfl
            have ocn : ∀ v, ρ (.const v) = v := fun v => hout (.const v) rfl
            have ofn : ∀ f, ρ (.func f) = .func (.func f) #[] #[] := fun f => hout (.func f) rfl
            clear hdep hout
            refine .inl ⟨?_, ?_⟩
            · rfl
            show Gives _ _ _ (.int .i64 V) _
            refine Gives.call (HC.out x) ?_
            go_simp
          rcases i with _ | i
          · obtain rfl := Option.some.inj ho
            have e10 : ρ (.tmp 22) = .int .i64 V := (hdep ⟨10, .data⟩ (by simp) rfl).1 22 rfl
            have ocn : ∀ v, ρ (.const v) = v := fun v => hout (.const v) rfl
            have ofn : ∀ f, ρ (.func f) = .func (.func f) #[] #[] := fun f => hout (.func f) rfl
            clear hdep hout
            refine .inl ⟨?_, ?_⟩
            · rfl
            show Gives _ _ _ (.bool false) _
            refine Gives.val ?_
            go_simp
          cases ho
        case fin =>
          intro x hBx
          have HBX : Hid (Below x0.heap.size x0 x) := HBW.out.trans (hBx.mono HBW.out.size)
          go_wp2_with fail
          go_roundw
          case rel => exact ⟨q, .inl (by have := HK.out; omega), by go_num, HBX.out, fun j hj => by rcases (by omega : j < k ∨ j = k) with h | rfl; exact hd.out j h; exact HYES.out⟩
          case measure => simp [intOf]; have := HK.out; omega
    · have hki : ¬ ((k + 1 : Nat) : Int) < (n : Int) := by omega
      have HE : Hid (allB ok (n - 1) = true) := allB_yes fun j hj => hd.out j (by omega)
      clear hd HOK
      go_wp2_with fail
      go_ret
      exact ⟨ret_bool HE.out.symm, hB⟩

set_option maxRecDepth 100000 in
set_option maxHeartbeats 4000000 in
theorem ascendCallS_any (x0 : World) (v : Value) (n : Nat) (N : Nat → Int) (h : IRowW 2 x0 v n N) :
    Calls Tryz.prog 111 #[v, .func (.func 112) #[] #[]] x0 fun e y => e = .returned (.bool (allB (fun j => decide (callO N j (j + 1) < 0)) (n - 1))) ∧ Below x0.heap.size x0 y := by
  obtain ⟨p, cap, rfl, hm, hc⟩ := h
  unfold maxLen at hm
  have hni : (n : Int) ≤ 9223372036854775807 := by omega
  clear hm
  have HF : ∃ ok : Nat → Int → Bool, True := ⟨fun _ _ => true, trivial⟩
  clear HF
  generalize hOK : (fun j => decide (callO N j (j + 1) < 0)) = ok
  have HOK : Hid (∀ j, ok j = decide (callO N j (j + 1) < 0)) := by show ∀ j, _; intro j; rw [← hOK]
  clear hOK
  go_enter Tryz.func111, Tryz.ntmps111
  go_wp2_with fail
  go_loopw [5] (fun t y => ∃ k : Nat, (k + 1 ≤ n ∨ k = 0) ∧ t = .int .i64 ((k + 1 : Nat) : Int) ∧ Below x0.heap.size x0 y ∧ Hid (∀ j, j < k → ok j = true)) (fun t _ => n + 1 - (intOf t).toNat)
  case atStart => exact ⟨0, .inr rfl, rfl, Below.refl _ _, fun j hj => by omega⟩
  case round =>
    obtain ⟨k, hk, rfl, hB, hd⟩ := hrel
    by_cases hlt : k + 1 < n
    · rcases hc with h0 | ⟨g, o, rfl, hBg, hgE, hEx, _, hins⟩
      · omega
      have hgx : g < x0.heap.size := by omega
      have hki : ((k + 1 : Nat) : Int) < (n : Int) := by omega
      have hkn : (k : Int) < (n : Int) := by omega
      have hok := HOK.out k
      unfold callO at hok
      have d0 := (hB.cell (p := ⟨g, o + (k * 2), none⟩) hgx).trans (hins (k * 2) (by omega))
      have d1 := (hB.cell (p := ⟨g, o + (k * 2 + 1), none⟩) hgx).trans (hins (k * 2 + 1) (by omega))
      have e0 := (hB.cell (p := ⟨g, o + ((k + 1) * 2), none⟩) hgx).trans (hins ((k + 1) * 2) (by omega))
      have e1 := (hB.cell (p := ⟨g, o + ((k + 1) * 2 + 1), none⟩) hgx).trans (hins ((k + 1) * 2 + 1) (by omega))
      rw [← Nat.add_assoc] at d1 e1
      clear hins
      generalize N (k * 2 + 1) = a1 at *
      generalize N (k * 2) = a0 at *
      generalize N ((k + 1) * 2 + 1) = b1 at *
      generalize N ((k + 1) * 2) = b0 at *
      have HBW : Hid (Below x0.heap.size x0 wr) := hB
      have HOKK : Hid (ok k = decide (orF (cmpF a0 b0) (cmpF a1 b1) < 0)) := hok
      clear hok
      generalize hV : orF (cmpF a0 b0) (cmpF a1 b1) = V at HOKK
      have HV : Hid (orF (cmpF a0 b0) (cmpF a1 b1) = V) := hV
      clear hV
      have hgw : g < wr.heap.size := Nat.lt_of_lt_of_le hgx hB.size
      have HK : Hid (k + 1 < n) := hlt
      clear hB hk hlt hgx hgE hEx hBg
      have hk1 : 0 ≤ ((k + 1 : Nat) : Int) - 1 := by omega
      generalize hq : k + 1 = q at *
      have hq1 : (q : Int) - 1 = (k : Int) := by omega
      have HC : Hid (∀ z : World, Calls Tryz.prog 112 #[.agg #[.int .i64 a0, .int .i64 a1], .agg #[.int .i64 b0, .int .i64 b1]] z fun e y => e = .returned (.int .i64 V) ∧ Below z.heap.size z y) := by
        show ∀ z, _
        intro z
        rw [← HV.out]
        exact callOrder_any (a0, a1) (b0, b1) z
      clear HV
      have hge : (V ≥ 0) ∨ ¬ (V ≥ 0) := by omega
      rcases hge with hge | hge
      · have hgb : decide (V ≥ 0) = true := decide_eq_true hge
        have HNO : Hid (ok k = false) := by show _ = _; rw [HOKK.out]; exact decide_eq_false (by omega)
        clear HOKK
        go_wp2_with fail
        refine wp_region_vals (by kernel_rfl) (by kernel_rfl) (by kernel_rfl) (by kernel_rfl) (fun j => [.func (.func 112) #[] #[], .slice (some ⟨g, o, none⟩) n cap, .int .i64 q, .int .i64 (k : Int), .pointer (some ⟨g, o + k * 2, none⟩), .agg #[.int .i64 a0, .int .i64 a1], .slice (some ⟨g, o, none⟩) n cap, .int .i64 q, .pointer (some ⟨g, o + q * 2, none⟩), .agg #[.int .i64 b0, .int .i64 b1], .int .i64 V, .bool true].getD j undef) wr (Below.drew (Below.refl _ _)) ?step ⟨#[.slice (some ⟨g, o, none⟩) n cap, .func (.func 112) #[] #[], undef, undef, u4, .int .i64 q, .int .i64 q, .slice (some ⟨g, o, none⟩) n cap, .int .i64 n, .bool true, u10, u11, .func (.func 112) #[] #[], .slice (some ⟨g, o, none⟩) n cap, .int .i64 q, .int .i64 (k : Int), .pointer (some ⟨g, o + k * 2, none⟩), .agg #[.int .i64 a0, .int .i64 a1], .slice (some ⟨g, o, none⟩) n cap, .int .i64 q, .pointer (some ⟨g, o + q * 2, none⟩), .agg #[.int .i64 b0, .int .i64 b1], .int .i64 V, .bool true], []⟩ (by kernel_rfl) ?fin
        case step =>
          intro i o ho ρ y x hBx hdep hout
          rcases i with _ | i
          · obtain rfl := Option.some.inj ho
            have o1 : ρ (.tmp 1) = .func (.func 112) #[] #[] := hout (.tmp 1) rfl
            have ocn : ∀ v, ρ (.const v) = v := fun v => hout (.const v) rfl
            have ofn : ∀ f, ρ (.func f) = .func (.func f) #[] #[] := fun f => hout (.func f) rfl
            clear hdep hout
            refine .inl ⟨?_, ?_⟩
            · rfl
            show Gives _ _ _ (.func (.func 112) #[] #[]) _
            refine Gives.val ?_
            go_simp
          rcases i with _ | i
          · obtain rfl := Option.some.inj ho
            have o0 : ρ (.tmp 0) = .slice (some ⟨g, o, none⟩) n cap := hout (.tmp 0) rfl
            have ocn : ∀ v, ρ (.const v) = v := fun v => hout (.const v) rfl
            have ofn : ∀ f, ρ (.func f) = .func (.func f) #[] #[] := fun f => hout (.func f) rfl
            clear hdep hout
            refine .inl ⟨?_, ?_⟩
            · rfl
            show Gives _ _ _ (.slice (some ⟨g, o, none⟩) n cap) _
            refine Gives.val ?_
            go_simp
          rcases i with _ | i
          · obtain rfl := Option.some.inj ho
            have o5 : ρ (.tmp 5) = .int .i64 q := hout (.tmp 5) rfl
            have ocn : ∀ v, ρ (.const v) = v := fun v => hout (.const v) rfl
            have ofn : ∀ f, ρ (.func f) = .func (.func f) #[] #[] := fun f => hout (.func f) rfl
            clear hdep hout
            refine .inl ⟨?_, ?_⟩
            · rfl
            show Gives _ _ _ (.int .i64 q) _
            refine Gives.val ?_
            go_simp
          rcases i with _ | i
          · obtain rfl := Option.some.inj ho
            have e2 : ρ (.tmp 14) = .int .i64 q := (hdep ⟨2, .data⟩ (by simp) rfl).1 14 rfl
            have ocn : ∀ v, ρ (.const v) = v := fun v => hout (.const v) rfl
            have ofn : ∀ f, ρ (.func f) = .func (.func f) #[] #[] := fun f => hout (.func f) rfl
            clear hdep hout
            refine .inl ⟨?_, ?_⟩
            · rfl
            show Gives _ _ _ (.int .i64 (k : Int)) _
            refine Gives.val ?_
            (rw [← hq1]; go_simp; exact IntWalk.i64_in _ (by omega))
          rcases i with _ | i
          · obtain rfl := Option.some.inj ho
            have e1 : ρ (.tmp 13) = .slice (some ⟨g, o, none⟩) n cap := (hdep ⟨1, .data⟩ (by simp) rfl).1 13 rfl
            have e3 : ρ (.tmp 15) = .int .i64 (k : Int) := (hdep ⟨3, .data⟩ (by simp) rfl).1 15 rfl
            have ocn : ∀ v, ρ (.const v) = v := fun v => hout (.const v) rfl
            have ofn : ∀ f, ρ (.func f) = .func (.func f) #[] #[] := fun f => hout (.func f) rfl
            clear hdep hout
            refine .inl ⟨?_, ?_⟩
            · rfl
            show Gives _ _ _ (.pointer (some ⟨g, o + k * 2, none⟩)) _
            refine Gives.val ?_
            go_simp
          rcases i with _ | i
          · obtain rfl := Option.some.inj ho
            have e4 : ρ (.tmp 16) = .pointer (some ⟨g, o + k * 2, none⟩) := (hdep ⟨4, .data⟩ (by simp) rfl).1 16 rfl
            have ocn : ∀ v, ρ (.const v) = v := fun v => hout (.const v) rfl
            have ofn : ∀ f, ρ (.func f) = .func (.func f) #[] #[] := fun f => hout (.func f) rfl
            clear hdep hout
            refine .inl ⟨?_, ?_⟩
            · rfl
            have c0 := (hBx.cell (p := ⟨g, o + k * 2, none⟩) hgw).trans d0
            have c1 := (hBx.cell (p := ⟨g, o + k * 2 + 1, none⟩) hgw).trans d1
            show Gives _ _ _ (.agg #[.int .i64 a0, .int .i64 a1]) _
            refine Gives.val ?_
            go_simp
          rcases i with _ | i
          · obtain rfl := Option.some.inj ho
            have o0 : ρ (.tmp 0) = .slice (some ⟨g, o, none⟩) n cap := hout (.tmp 0) rfl
            have ocn : ∀ v, ρ (.const v) = v := fun v => hout (.const v) rfl
            have ofn : ∀ f, ρ (.func f) = .func (.func f) #[] #[] := fun f => hout (.func f) rfl
            clear hdep hout
            refine .inl ⟨?_, ?_⟩
            · rfl
            show Gives _ _ _ (.slice (some ⟨g, o, none⟩) n cap) _
            refine Gives.val ?_
            go_simp
          rcases i with _ | i
          · obtain rfl := Option.some.inj ho
            have o5 : ρ (.tmp 5) = .int .i64 q := hout (.tmp 5) rfl
            have ocn : ∀ v, ρ (.const v) = v := fun v => hout (.const v) rfl
            have ofn : ∀ f, ρ (.func f) = .func (.func f) #[] #[] := fun f => hout (.func f) rfl
            clear hdep hout
            refine .inl ⟨?_, ?_⟩
            · rfl
            show Gives _ _ _ (.int .i64 q) _
            refine Gives.val ?_
            go_simp
          rcases i with _ | i
          · obtain rfl := Option.some.inj ho
            have e6 : ρ (.tmp 18) = .slice (some ⟨g, o, none⟩) n cap := (hdep ⟨6, .data⟩ (by simp) rfl).1 18 rfl
            have e7 : ρ (.tmp 19) = .int .i64 q := (hdep ⟨7, .data⟩ (by simp) rfl).1 19 rfl
            have ocn : ∀ v, ρ (.const v) = v := fun v => hout (.const v) rfl
            have ofn : ∀ f, ρ (.func f) = .func (.func f) #[] #[] := fun f => hout (.func f) rfl
            clear hdep hout
            refine .inl ⟨?_, ?_⟩
            · rfl
            show Gives _ _ _ (.pointer (some ⟨g, o + q * 2, none⟩)) _
            refine Gives.val ?_
            go_simp
          rcases i with _ | i
          · obtain rfl := Option.some.inj ho
            have e8 : ρ (.tmp 20) = .pointer (some ⟨g, o + q * 2, none⟩) := (hdep ⟨8, .data⟩ (by simp) rfl).1 20 rfl
            have ocn : ∀ v, ρ (.const v) = v := fun v => hout (.const v) rfl
            have ofn : ∀ f, ρ (.func f) = .func (.func f) #[] #[] := fun f => hout (.func f) rfl
            clear hdep hout
            refine .inl ⟨?_, ?_⟩
            · rfl
            have c0 := (hBx.cell (p := ⟨g, o + q * 2, none⟩) hgw).trans e0
            have c1 := (hBx.cell (p := ⟨g, o + q * 2 + 1, none⟩) hgw).trans e1
            show Gives _ _ _ (.agg #[.int .i64 b0, .int .i64 b1]) _
            refine Gives.val ?_
            go_simp
          rcases i with _ | i
          · obtain rfl := Option.some.inj ho
            have e0 : ρ (.tmp 12) = .func (.func 112) #[] #[] := (hdep ⟨0, .data⟩ (by simp) rfl).1 12 rfl
            have e5 : ρ (.tmp 17) = .agg #[.int .i64 a0, .int .i64 a1] := (hdep ⟨5, .data⟩ (by simp) rfl).1 17 rfl
            have e9 : ρ (.tmp 21) = .agg #[.int .i64 b0, .int .i64 b1] := (hdep ⟨9, .data⟩ (by simp) rfl).1 21 rfl
            have ocn : ∀ v, ρ (.const v) = v := fun v => hout (.const v) rfl
            have ofn : ∀ f, ρ (.func f) = .func (.func f) #[] #[] := fun f => hout (.func f) rfl
            clear hdep hout
            refine .inl ⟨?_, ?_⟩
            · rfl
            show Gives _ _ _ (.int .i64 V) _
            refine Gives.call (HC.out x) ?_
            go_simp
          rcases i with _ | i
          · obtain rfl := Option.some.inj ho
            have e10 : ρ (.tmp 22) = .int .i64 V := (hdep ⟨10, .data⟩ (by simp) rfl).1 22 rfl
            have ocn : ∀ v, ρ (.const v) = v := fun v => hout (.const v) rfl
            have ofn : ∀ f, ρ (.func f) = .func (.func f) #[] #[] := fun f => hout (.func f) rfl
            clear hdep hout
            refine .inl ⟨?_, ?_⟩
            · rfl
            show Gives _ _ _ (.bool true) _
            refine Gives.val ?_
            go_simp
          cases ho
        case fin =>
          intro x hBx
          have HBX : Hid (Below x0.heap.size x0 x) := HBW.out.trans (hBx.mono HBW.out.size)
          go_wp2_with fail
          go_ret
          exact ⟨ret_bool (by rw [allB_no (j := k) (by have := HK.out; omega) HNO.out]), HBX.out⟩
      · have hgb : decide (V ≥ 0) = false := decide_eq_false hge
        have HYES : Hid (ok k = true) := by show _ = _; rw [HOKK.out]; exact decide_eq_true (by omega)
        clear HOKK
        go_wp2_with fail
        refine wp_region_vals (by kernel_rfl) (by kernel_rfl) (by kernel_rfl) (by kernel_rfl) (fun j => [.func (.func 112) #[] #[], .slice (some ⟨g, o, none⟩) n cap, .int .i64 q, .int .i64 (k : Int), .pointer (some ⟨g, o + k * 2, none⟩), .agg #[.int .i64 a0, .int .i64 a1], .slice (some ⟨g, o, none⟩) n cap, .int .i64 q, .pointer (some ⟨g, o + q * 2, none⟩), .agg #[.int .i64 b0, .int .i64 b1], .int .i64 V, .bool false].getD j undef) wr (Below.drew (Below.refl _ _)) ?step ⟨#[.slice (some ⟨g, o, none⟩) n cap, .func (.func 112) #[] #[], undef, undef, u4, .int .i64 q, .int .i64 q, .slice (some ⟨g, o, none⟩) n cap, .int .i64 n, .bool true, u10, u11, .func (.func 112) #[] #[], .slice (some ⟨g, o, none⟩) n cap, .int .i64 q, .int .i64 (k : Int), .pointer (some ⟨g, o + k * 2, none⟩), .agg #[.int .i64 a0, .int .i64 a1], .slice (some ⟨g, o, none⟩) n cap, .int .i64 q, .pointer (some ⟨g, o + q * 2, none⟩), .agg #[.int .i64 b0, .int .i64 b1], .int .i64 V, .bool false], []⟩ (by kernel_rfl) ?fin
        case step =>
          intro i o ho ρ y x hBx hdep hout
          rcases i with _ | i
          · obtain rfl := Option.some.inj ho
            have o1 : ρ (.tmp 1) = .func (.func 112) #[] #[] := hout (.tmp 1) rfl
            have ocn : ∀ v, ρ (.const v) = v := fun v => hout (.const v) rfl
            have ofn : ∀ f, ρ (.func f) = .func (.func f) #[] #[] := fun f => hout (.func f) rfl
            clear hdep hout
            refine .inl ⟨?_, ?_⟩
            · rfl
            show Gives _ _ _ (.func (.func 112) #[] #[]) _
            refine Gives.val ?_
            go_simp
          rcases i with _ | i
          · obtain rfl := Option.some.inj ho
            have o0 : ρ (.tmp 0) = .slice (some ⟨g, o, none⟩) n cap := hout (.tmp 0) rfl
            have ocn : ∀ v, ρ (.const v) = v := fun v => hout (.const v) rfl
            have ofn : ∀ f, ρ (.func f) = .func (.func f) #[] #[] := fun f => hout (.func f) rfl
            clear hdep hout
            refine .inl ⟨?_, ?_⟩
            · rfl
            show Gives _ _ _ (.slice (some ⟨g, o, none⟩) n cap) _
            refine Gives.val ?_
            go_simp
          rcases i with _ | i
          · obtain rfl := Option.some.inj ho
            have o5 : ρ (.tmp 5) = .int .i64 q := hout (.tmp 5) rfl
            have ocn : ∀ v, ρ (.const v) = v := fun v => hout (.const v) rfl
            have ofn : ∀ f, ρ (.func f) = .func (.func f) #[] #[] := fun f => hout (.func f) rfl
            clear hdep hout
            refine .inl ⟨?_, ?_⟩
            · rfl
            show Gives _ _ _ (.int .i64 q) _
            refine Gives.val ?_
            go_simp
          rcases i with _ | i
          · obtain rfl := Option.some.inj ho
            have e2 : ρ (.tmp 14) = .int .i64 q := (hdep ⟨2, .data⟩ (by simp) rfl).1 14 rfl
            have ocn : ∀ v, ρ (.const v) = v := fun v => hout (.const v) rfl
            have ofn : ∀ f, ρ (.func f) = .func (.func f) #[] #[] := fun f => hout (.func f) rfl
            clear hdep hout
            refine .inl ⟨?_, ?_⟩
            · rfl
            show Gives _ _ _ (.int .i64 (k : Int)) _
            refine Gives.val ?_
            (rw [← hq1]; go_simp; exact IntWalk.i64_in _ (by omega))
          rcases i with _ | i
          · obtain rfl := Option.some.inj ho
            have e1 : ρ (.tmp 13) = .slice (some ⟨g, o, none⟩) n cap := (hdep ⟨1, .data⟩ (by simp) rfl).1 13 rfl
            have e3 : ρ (.tmp 15) = .int .i64 (k : Int) := (hdep ⟨3, .data⟩ (by simp) rfl).1 15 rfl
            have ocn : ∀ v, ρ (.const v) = v := fun v => hout (.const v) rfl
            have ofn : ∀ f, ρ (.func f) = .func (.func f) #[] #[] := fun f => hout (.func f) rfl
            clear hdep hout
            refine .inl ⟨?_, ?_⟩
            · rfl
            show Gives _ _ _ (.pointer (some ⟨g, o + k * 2, none⟩)) _
            refine Gives.val ?_
            go_simp
          rcases i with _ | i
          · obtain rfl := Option.some.inj ho
            have e4 : ρ (.tmp 16) = .pointer (some ⟨g, o + k * 2, none⟩) := (hdep ⟨4, .data⟩ (by simp) rfl).1 16 rfl
            have ocn : ∀ v, ρ (.const v) = v := fun v => hout (.const v) rfl
            have ofn : ∀ f, ρ (.func f) = .func (.func f) #[] #[] := fun f => hout (.func f) rfl
            clear hdep hout
            refine .inl ⟨?_, ?_⟩
            · rfl
            have c0 := (hBx.cell (p := ⟨g, o + k * 2, none⟩) hgw).trans d0
            have c1 := (hBx.cell (p := ⟨g, o + k * 2 + 1, none⟩) hgw).trans d1
            show Gives _ _ _ (.agg #[.int .i64 a0, .int .i64 a1]) _
            refine Gives.val ?_
            go_simp
          rcases i with _ | i
          · obtain rfl := Option.some.inj ho
            have o0 : ρ (.tmp 0) = .slice (some ⟨g, o, none⟩) n cap := hout (.tmp 0) rfl
            have ocn : ∀ v, ρ (.const v) = v := fun v => hout (.const v) rfl
            have ofn : ∀ f, ρ (.func f) = .func (.func f) #[] #[] := fun f => hout (.func f) rfl
            clear hdep hout
            refine .inl ⟨?_, ?_⟩
            · rfl
            show Gives _ _ _ (.slice (some ⟨g, o, none⟩) n cap) _
            refine Gives.val ?_
            go_simp
          rcases i with _ | i
          · obtain rfl := Option.some.inj ho
            have o5 : ρ (.tmp 5) = .int .i64 q := hout (.tmp 5) rfl
            have ocn : ∀ v, ρ (.const v) = v := fun v => hout (.const v) rfl
            have ofn : ∀ f, ρ (.func f) = .func (.func f) #[] #[] := fun f => hout (.func f) rfl
            clear hdep hout
            refine .inl ⟨?_, ?_⟩
            · rfl
            show Gives _ _ _ (.int .i64 q) _
            refine Gives.val ?_
            go_simp
          rcases i with _ | i
          · obtain rfl := Option.some.inj ho
            have e6 : ρ (.tmp 18) = .slice (some ⟨g, o, none⟩) n cap := (hdep ⟨6, .data⟩ (by simp) rfl).1 18 rfl
            have e7 : ρ (.tmp 19) = .int .i64 q := (hdep ⟨7, .data⟩ (by simp) rfl).1 19 rfl
            have ocn : ∀ v, ρ (.const v) = v := fun v => hout (.const v) rfl
            have ofn : ∀ f, ρ (.func f) = .func (.func f) #[] #[] := fun f => hout (.func f) rfl
            clear hdep hout
            refine .inl ⟨?_, ?_⟩
            · rfl
            show Gives _ _ _ (.pointer (some ⟨g, o + q * 2, none⟩)) _
            refine Gives.val ?_
            go_simp
          rcases i with _ | i
          · obtain rfl := Option.some.inj ho
            have e8 : ρ (.tmp 20) = .pointer (some ⟨g, o + q * 2, none⟩) := (hdep ⟨8, .data⟩ (by simp) rfl).1 20 rfl
            have ocn : ∀ v, ρ (.const v) = v := fun v => hout (.const v) rfl
            have ofn : ∀ f, ρ (.func f) = .func (.func f) #[] #[] := fun f => hout (.func f) rfl
            clear hdep hout
            refine .inl ⟨?_, ?_⟩
            · rfl
            have c0 := (hBx.cell (p := ⟨g, o + q * 2, none⟩) hgw).trans e0
            have c1 := (hBx.cell (p := ⟨g, o + q * 2 + 1, none⟩) hgw).trans e1
            show Gives _ _ _ (.agg #[.int .i64 b0, .int .i64 b1]) _
            refine Gives.val ?_
            go_simp
          rcases i with _ | i
          · obtain rfl := Option.some.inj ho
            have e0 : ρ (.tmp 12) = .func (.func 112) #[] #[] := (hdep ⟨0, .data⟩ (by simp) rfl).1 12 rfl
            have e5 : ρ (.tmp 17) = .agg #[.int .i64 a0, .int .i64 a1] := (hdep ⟨5, .data⟩ (by simp) rfl).1 17 rfl
            have e9 : ρ (.tmp 21) = .agg #[.int .i64 b0, .int .i64 b1] := (hdep ⟨9, .data⟩ (by simp) rfl).1 21 rfl
            have ocn : ∀ v, ρ (.const v) = v := fun v => hout (.const v) rfl
            have ofn : ∀ f, ρ (.func f) = .func (.func f) #[] #[] := fun f => hout (.func f) rfl
            clear hdep hout
            refine .inl ⟨?_, ?_⟩
            · rfl
            show Gives _ _ _ (.int .i64 V) _
            refine Gives.call (HC.out x) ?_
            go_simp
          rcases i with _ | i
          · obtain rfl := Option.some.inj ho
            have e10 : ρ (.tmp 22) = .int .i64 V := (hdep ⟨10, .data⟩ (by simp) rfl).1 22 rfl
            have ocn : ∀ v, ρ (.const v) = v := fun v => hout (.const v) rfl
            have ofn : ∀ f, ρ (.func f) = .func (.func f) #[] #[] := fun f => hout (.func f) rfl
            clear hdep hout
            refine .inl ⟨?_, ?_⟩
            · rfl
            show Gives _ _ _ (.bool false) _
            refine Gives.val ?_
            go_simp
          cases ho
        case fin =>
          intro x hBx
          have HBX : Hid (Below x0.heap.size x0 x) := HBW.out.trans (hBx.mono HBW.out.size)
          go_wp2_with fail
          go_roundw
          case rel => exact ⟨q, .inl (by have := HK.out; omega), by go_num, HBX.out, fun j hj => by rcases (by omega : j < k ∨ j = k) with h | rfl; exact hd.out j h; exact HYES.out⟩
          case measure => simp [intOf]; have := HK.out; omega
    · have hki : ¬ ((k + 1 : Nat) : Int) < (n : Int) := by omega
      have HE : Hid (allB ok (n - 1) = true) := allB_yes fun j hj => hd.out j (by omega)
      clear hd HOK
      go_wp2_with fail
      go_ret
      exact ⟨ret_bool HE.out.symm, hB⟩

end Go.Proofs.YtlkebkajdlgebaaGreat

/-
  Whether a row's sites are ok: the contract of sitesOk.
-/
namespace Go.Proofs.YtlkebkajdlgebaaGreat
open Go.RowKit
set_option linter.unusedVariables false
set_option linter.unusedSimpArgs false

def siteS (S : Nat → Int) (j : Nat) : Int × Int × Int := (S (j * 3), S (j * 3 + 1), S (j * 3 + 2))
def siteIs (P : List (List I4)) (p : Int) (S : Nat → Int) (j : Nat) : Bool := decide (S (j * 3) = p) && siteOkF P (siteS S j)
def sitesF (P : List (List I4)) (p : Int) (n : Nat) (S : Nat → Int) : Bool := allB (siteIs P p S) n && allB (fun j => decide (siteO S j (j + 1) < 0)) (n - 1)
set_option maxRecDepth 100000 in
set_option maxHeartbeats 4000000 in
theorem sitesOk_any (x0 : World) (B : Nat) (v : Value) (P : List (List I4)) (h : ProgAt x0 B v P) (hok : progOkF P = true) (p : Int) (u : Value) (n : Nat) (S : Nat → Int) (hs : IRowW 3 x0 u n S) :
    Calls Tryz.prog 83 #[v, .int .i64 p, u] x0 fun e y => e = .returned (.bool (sitesF P p n S)) ∧ Below x0.heap.size x0 y := by
  obtain ⟨pp, cp, rfl, _⟩ := h.shape
  obtain ⟨ps, cs, rfl⟩ := hs.shape
  have hm := hs.len
  unfold maxLen at hm
  have hni : (n : Int) ≤ 9223372036854775807 := by omega
  clear hm
  have HP : Hid (ProgAt x0 B (.slice pp P.length cp) P) := h
  have HOK : Hid (progOkF P = true) := hok
  have HS : Hid (IRowW 3 x0 (.slice ps n cs) n S) := hs
  clear h hok hs
  have HF : Hid (sitesF P p n S = (allB (siteIs P p S) n && allB (fun j => decide (siteO S j (j + 1) < 0)) (n - 1))) := rfl
  generalize sitesF P p n S = F at HF ⊢
  go_enter Tryz.func83, Tryz.ntmps83
  go_wp2_with fail
  go_loopw [11] (fun t y => ∃ k : Nat, k ≤ n ∧ t = .int .i64 k ∧ Hid (Below x0.heap.size x0 y) ∧ Hid (∀ j, j < k → siteIs P p S j = true)) (fun t _ => n - (intOf t).toNat)
  case atStart => exact ⟨0, by omega, rfl, Below.refl _ _, fun j hj => by omega⟩
  case round =>
    obtain ⟨k, hk, rfl, HB, hd⟩ := hrel
    by_cases hlt : k < n
    · obtain ⟨p', cap', hv, _, hc⟩ := HS.out
      injection hv with e1 _ e3
      subst e1 e3
      rcases hc with h0 | ⟨g, o, rfl, hBg, hgE, hEx, _, hins⟩
      · omega
      have hki : (k : Int) < (n : Int) := by omega
      have hgx : g < x0.heap.size := by omega
      have hgw : g < wr.heap.size := Nat.lt_of_lt_of_le hgx HB.out.size
      have d0 := (HB.out.cell (p := ⟨g, o + k * 3, none⟩) hgx).trans (hins (k * 3) (by omega))
      have d1 := (HB.out.cell (p := ⟨g, o + (k * 3 + 1), none⟩) hgx).trans (hins (k * 3 + 1) (by omega))
      have d2 := (HB.out.cell (p := ⟨g, o + (k * 3 + 2), none⟩) hgx).trans (hins (k * 3 + 2) (by omega))
      rw [← Nat.add_assoc] at d1 d2
      clear hins hBg hgE hEx
      have HI : Hid (siteIs P p S k = (decide (S (k * 3) = p) && siteOkF P (S (k * 3), S (k * 3 + 1), S (k * 3 + 2)))) := rfl
      generalize hI : siteIs P p S k = I at HI
      have HIK : Hid (siteIs P p S k = I) := hI
      clear hI
      generalize S (k * 3) = s0 at *
      generalize S (k * 3 + 1) = s1 at *
      generalize S (k * 3 + 2) = s2 at *
      clear hgx
      by_cases hp : s0 = p
      · have hpb : (s0 != p) = false := by simp [hp]
        have HI2 : Hid (I = siteOkF P (p, s1, s2)) := by show _ = _; rw [HI.out, hp, decide_eq_true rfl]; rfl
        clear HI
        go_wp2_with fail
        have HX : Hid (Below x0.heap.size x0 (wr.alloc (.cells #[.int .i64 p, .int .i64 s1, .int .i64 s2] 94))) := HB.out.alloc HB.out.size _
        generalize wr.alloc (.cells #[.int .i64 p, .int .i64 s1, .int .i64 s2] 94) = X at HX ⊢
        refine (siteOk_any X B _ P (HP.out.later HX.out) HOK.out (p, s1, s2)).mono ?_
        rintro e y ⟨rfl, hb⟩
        have HY : Hid (Below x0.heap.size x0 y) := HX.out.trans (hb.mono HX.out.size)
        clear hb HX
        rw [← HI2.out]
        clear HI2
        cases I
        · have HNO : Hid (allB (siteIs P p S) n = false) := allB_no hlt HIK.out
          go_wp2_with fail
          go_ret
          exact ⟨ret_bool (by rw [HF.out, HNO.out]; rfl), HY.out⟩
        · go_wp2_with fail
          go_roundw
          case rel =>
            refine ⟨k + 1, by omega, by go_num, HY, fun j hj => ?_⟩
            rcases (by omega : j < k ∨ j = k) with hjk | rfl
            · exact hd.out j hjk
            · exact HIK.out
          case measure => simp [intOf]; omega
      · have hpb : (s0 != p) = true := by simp [hp]
        have HNO : Hid (allB (siteIs P p S) n = false) := allB_no hlt (by rw [HIK.out, HI.out, decide_eq_false hp]; rfl)
        go_wp2_with fail
        go_ret
        exact ⟨ret_bool (by rw [HF.out, HNO.out]; rfl), HB.out.alloc HB.out.size _⟩
    · obtain rfl : k = n := by omega
      have hki : ¬ (k : Int) < (k : Int) := by omega
      have HE : Hid (allB (siteIs P p S) k = true) := allB_yes hd.out
      go_wp2_with fail
      refine (ascendSiteS_any _ _ k S (HS.out.later HB.out)).mono ?_
      rintro e y ⟨rfl, hb⟩
      go_wp2_with fail
      go_ret
      exact ⟨ret_bool (by rw [HF.out, HE.out]; rfl), HB.out.trans (hb.mono HB.out.size)⟩

end Go.Proofs.YtlkebkajdlgebaaGreat

/-
  Whether a number is among a row's, whether it is a kind: the contracts of slices.Index, slices.Contains (of ints), isKind.
-/
namespace Go.Proofs.YtlkebkajdlgebaaGreat
open Go.RowKit
set_option linter.unusedVariables false
set_option linter.unusedSimpArgs false

theorem isKind_any (n : Int) (x : World) : Calls Tryz.prog 110 #[.int .i64 n] x fun e y => e = .returned (.bool (decide (0 ≤ n) && decide (n ≤ 2))) ∧ y = x := by
  by_cases h0 : 0 ≤ n
  · have e0 : decide (0 ≤ n) = true := decide_eq_true h0
    go_enter Tryz.func110, Tryz.ntmps110
    go_wp2_with fail
    go_ret
    exact ⟨ret_bool (by rw [e0]; simp), rfl⟩
  · have e0 : decide (0 ≤ n) = false := decide_eq_false h0
    go_enter Tryz.func110, Tryz.ntmps110
    go_wp2_with fail
    go_ret
    exact ⟨ret_bool (by first | rfl | (rw [e0]; simp)), rfl⟩
set_option maxHeartbeats 2000000 in
theorem index_any (x : World) (u : Value) (L : List Int) (n : Int) (h : IntsW x u L) :
    Calls Tryz.prog 126 #[u, .int .i64 n] x fun e y => ∃ i : Int, e = .returned (.int .i64 i) ∧ decide (i ≥ 0) = decide (n ∈ L) ∧ y = x := by
  obtain ⟨p, cap, rfl, hm, hc⟩ := h
  unfold maxLen at hm
  have hni : (L.length : Int) ≤ 9223372036854775807 := by omega
  clear hm
  generalize hln : L.length = ln at *
  have HLN : Hid (L.length = ln) := hln
  clear hln
  go_enter Tryz.func126, Tryz.ntmps126
  go_wp2_with fail
  go_loopw [8] (fun t y => ∃ k : Nat, k ≤ ln ∧ t = .int .i64 k ∧ y = x ∧ Hid (∀ j, j < k → L.getD j 0 ≠ n)) (fun t _ => ln - (intOf t).toNat)
  case atStart => exact ⟨0, by omega, rfl, rfl, fun j hj => by omega⟩
  case round =>
    obtain ⟨k, hk, rfl, rfl, hd⟩ := hrel
    by_cases hlt : k < ln
    · rcases hc with h0 | ⟨g, o, rfl, hBg, hgE, hEx, hf, hins⟩
      · omega
      have hki : (k : Int) < (ln : Int) := by omega
      have q0 := hins k (by omega)
      generalize hI : L.getD k 0 = I at q0
      have HI : Hid (L.getD k 0 = I) := hI
      clear hI hins hf
      by_cases hn : n = I
      · subst hn
        go_wp2_with fail
        go_ret
        have hmem : n ∈ L := by
          have hkL : k < L.length := by rw [HLN.out]; exact hlt
          have := HI.out
          rw [List.getD_eq_getElem?_getD, List.getElem?_eq_getElem hkL] at this
          rw [← this]
          exact List.getElem_mem hkL
        exact ⟨k, rfl, by rw [decide_eq_true hmem]; exact decide_eq_true (by omega), rfl⟩
      · have hnb : (n == I) = false := by simp [hn]
        go_wp2_with fail
        go_roundw
        case rel =>
          refine ⟨k + 1, by omega, by go_num, trivial, fun j hj => ?_⟩
          rcases (by omega : j < k ∨ j = k) with h | rfl
          · exact hd.out j h
          · rw [HI.out]; exact fun e => hn e.symm
        case measure => simp [intOf]; omega
    · obtain rfl : k = ln := by omega
      have hki : ¬ (k : Int) < (k : Int) := by omega
      have hno : n ∉ L := by
        intro hm
        obtain ⟨j, hj, e⟩ := List.getElem_of_mem hm
        refine hd.out j (by rw [← HLN.out]; exact hj) ?_
        rw [List.getD_eq_getElem?_getD, List.getElem?_eq_getElem hj]
        exact e
      have HNO : Hid (n ∉ L) := hno
      clear hno
      go_wp2_with fail
      go_ret
      exact ⟨-1, rfl, ⟨fun h => absurd h (by omega), fun h => absurd h HNO.out⟩, rfl⟩
theorem contains_any (x : World) (u : Value) (L : List Int) (n : Int) (h : IntsW x u L) :
    Calls Tryz.prog 109 #[u, .int .i64 n] x fun e y => e = .returned (.bool (decide (n ∈ L))) ∧ y = x := by
  obtain ⟨p, cap, rfl⟩ := h.shape
  have H : Hid (IntsW x (.slice p L.length cap) L) := h
  clear h
  go_enter Tryz.func109, Tryz.ntmps109
  go_wp2_with fail
  refine (index_any x _ L n H.out).mono ?_
  rintro e y ⟨i, rfl, hi, rfl⟩
  have HI : Hid (decide (i ≥ 0) = decide (n ∈ L)) := hi
  clear hi
  go_wp2_with fail
  go_ret
  exact ⟨ret_bool HI.out, rfl⟩

end Go.Proofs.YtlkebkajdlgebaaGreat
