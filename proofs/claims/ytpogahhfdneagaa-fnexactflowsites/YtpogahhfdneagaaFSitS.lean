/-
  The contracts of the model's l12Sites and FlowSites.
-/
import Derived.Test.YtpogahhfdneagaaFSitI
import Derived.Test.YtpogahhfdneagaaFWrS
namespace Go.Proofs.Ytpogahhfdneagaa
open Go.RowKit
set_option linter.unusedVariables false
set_option linter.unusedSimpArgs false

set_option maxRecDepth 100000 in
set_option maxHeartbeats 8000000 in
theorem l12Sites_none (x0 : World) (v : Value) (n m : Int) (s : Value) (c : Bool) (l u : Int) :
    Calls Try.prog 53 #[v, .int .i64 n, .int .i64 m, .agg #[.bool false, s, .bool c, .int .i64 l, .int .i64 u]] x0 fun e y => ∃ r, e = .returned r ∧ SitesAt y x0.heap.size y.heap.size r none ∧ Below x0.heap.size x0 y := by
  have HK : Hid (Below x0.heap.size x0 (x0.alloc (.cells #[.bool false, s, .bool c, .int .i64 l, .int .i64 u] 36))) := (Below.refl _ _).alloc (Nat.le_refl _) _
  have HB0 : Hid (Bx5 (x0.alloc (.cells #[.bool false, s, .bool c, .int .i64 l, .int .i64 u] 36)) x0.heap.size (.bool false) s (.bool c) (.int .i64 l) (.int .i64 u)) := Bx5.new _ _ _ _ _ _ _
  go_enter Try.func53, Try.ntmps53
  go_wp2_with fail
  generalize x0.alloc (.cells #[.bool false, s, .bool c, .int .i64 l, .int .i64 u] 36) = X at HK HB0 ⊢
  refine wp_region_vals (by kernel_rfl) (by kernel_rfl) (by kernel_rfl) (by kernel_rfl) (fun j => [.pointer (some ⟨x0.heap.size, 0, none⟩), .bool false, .bool true, .bool true, undef, undef, undef, undef, undef, undef, undef, undef, .bool true, .bool true, undef, undef, undef, undef, undef, undef, undef, undef, undef, undef, undef, .bool true].getD j undef) X (Below.drew (Below.refl _ _)) ?step ⟨#[v, .int .i64 n, .int .i64 m, .agg #[.bool false, s, .bool c, .int .i64 l, .int .i64 u], undef, undef, undef, .pointer (some ⟨x0.heap.size, 0, none⟩), .slice none 0 0, .pointer (some ⟨x0.heap.size, 0, none⟩), .bool false, .bool true, .bool true, undef, undef, undef, undef, undef, undef, undef, undef, .bool true, .bool true, undef, undef, undef, undef, undef, undef, undef, undef, undef, undef, undef, .bool true, undef, undef, undef, undef, undef, undef, undef, undef, undef, undef, undef, undef, undef, undef], []⟩ (by kernel_rfl) ?fin
  case step =>
    intro i o ho ρ y x hBx hdep hout
    rcases i with _ | i
    · obtain rfl := Option.some.inj ho
      have o7 : ρ (.tmp 7) = .pointer (some ⟨x0.heap.size, 0, none⟩) := hout (.tmp 7) rfl
      have ocn : ∀ v, ρ (.const v) = v := fun v => hout (.const v) rfl
      have ofn : ∀ f, ρ (.func f) = .func (.func f) #[] #[] := fun f => hout (.func f) rfl
      clear hdep hout
      refine .inl ⟨?_, ?_⟩
      · rfl
      show Gives _ _ _ (.pointer (some ⟨x0.heap.size, 0, none⟩)) _
      refine Gives.val ?_
      go_simp
    rcases i with _ | i
    · obtain rfl := Option.some.inj ho
      have e0 : ρ (.tmp 9) = .pointer (some ⟨x0.heap.size, 0, none⟩) := (hdep ⟨0, .data⟩ (by simp) rfl).1 9 rfl
      have ocn : ∀ v, ρ (.const v) = v := fun v => hout (.const v) rfl
      have ofn : ∀ f, ρ (.func f) = .func (.func f) #[] #[] := fun f => hout (.func f) rfl
      clear hdep hout
      refine .inl ⟨?_, ?_⟩
      · rfl
      obtain ⟨_, b0, b1, b2, b3, b4, _⟩ := HB0.out.later hBx
      show Gives _ _ _ (.bool false) _
      refine Gives.val ?_
      go_simp
    rcases i with _ | i
    · obtain rfl := Option.some.inj ho
      have e1 : ρ (.tmp 10) = .bool false := (hdep ⟨1, .data⟩ (by simp) rfl).1 10 rfl
      have ocn : ∀ v, ρ (.const v) = v := fun v => hout (.const v) rfl
      have ofn : ∀ f, ρ (.func f) = .func (.func f) #[] #[] := fun f => hout (.func f) rfl
      clear hdep hout
      refine .inl ⟨?_, ?_⟩
      · rfl
      show Gives _ _ _ (.bool true) _
      refine Gives.val ?_
      go_simp
    rcases i with _ | i
    · obtain rfl := Option.some.inj ho
      have e2 : ρ (.tmp 11) = .bool true := (hdep ⟨2, .data⟩ (by simp) rfl).1 11 rfl
      have ocn : ∀ v, ρ (.const v) = v := fun v => hout (.const v) rfl
      have ofn : ∀ f, ρ (.func f) = .func (.func f) #[] #[] := fun f => hout (.func f) rfl
      clear hdep hout
      refine .inl ⟨?_, ?_⟩
      · rfl
      show Gives _ _ _ (.bool true) _
      refine Gives.val ?_
      go_simp
    rcases i with _ | i
    · obtain rfl := Option.some.inj ho
      have o2 : ρ (.tmp 2) = .int .i64 m := hout (.tmp 2) rfl
      have yg : y 3 = some true := (hdep ⟨3, .guard⟩ (by simp) rfl).2 12 rfl
      have ocn : ∀ v, ρ (.const v) = v := fun v => hout (.const v) rfl
      have ofn : ∀ f, ρ (.func f) = .func (.func f) #[] #[] := fun f => hout (.func f) rfl
      clear hdep hout
      refine .inr ⟨?_, rfl⟩
      show (y 3 == some false) = false
      rw [yg]; rfl
    rcases i with _ | i
    · obtain rfl := Option.some.inj ho
      have o0 : ρ (.tmp 0) = v := hout (.tmp 0) rfl
      have yg : y 3 = some true := (hdep ⟨3, .guard⟩ (by simp) rfl).2 12 rfl
      have ocn : ∀ v, ρ (.const v) = v := fun v => hout (.const v) rfl
      have ofn : ∀ f, ρ (.func f) = .func (.func f) #[] #[] := fun f => hout (.func f) rfl
      clear hdep hout
      refine .inr ⟨?_, rfl⟩
      show (y 3 == some false) = false
      rw [yg]; rfl
    rcases i with _ | i
    · obtain rfl := Option.some.inj ho
      have o1 : ρ (.tmp 1) = .int .i64 n := hout (.tmp 1) rfl
      have yg : y 3 = some true := (hdep ⟨3, .guard⟩ (by simp) rfl).2 12 rfl
      have ocn : ∀ v, ρ (.const v) = v := fun v => hout (.const v) rfl
      have ofn : ∀ f, ρ (.func f) = .func (.func f) #[] #[] := fun f => hout (.func f) rfl
      clear hdep hout
      refine .inr ⟨?_, rfl⟩
      show (y 3 == some false) = false
      rw [yg]; rfl
    rcases i with _ | i
    · obtain rfl := Option.some.inj ho
      have e5 : ρ (.tmp 14) = undef := (hdep ⟨5, .data⟩ (by simp) rfl).1 14 rfl
      have e6 : ρ (.tmp 15) = undef := (hdep ⟨6, .data⟩ (by simp) rfl).1 15 rfl
      have yg : y 3 = some true := (hdep ⟨3, .guard⟩ (by simp) rfl).2 12 rfl
      have ocn : ∀ v, ρ (.const v) = v := fun v => hout (.const v) rfl
      have ofn : ∀ f, ρ (.func f) = .func (.func f) #[] #[] := fun f => hout (.func f) rfl
      clear hdep hout
      refine .inr ⟨?_, rfl⟩
      show (y 3 == some false) = false
      rw [yg]; rfl
    rcases i with _ | i
    · obtain rfl := Option.some.inj ho
      have e7 : ρ (.tmp 16) = undef := (hdep ⟨7, .data⟩ (by simp) rfl).1 16 rfl
      have yg : y 3 = some true := (hdep ⟨3, .guard⟩ (by simp) rfl).2 12 rfl
      have ocn : ∀ v, ρ (.const v) = v := fun v => hout (.const v) rfl
      have ofn : ∀ f, ρ (.func f) = .func (.func f) #[] #[] := fun f => hout (.func f) rfl
      clear hdep hout
      refine .inr ⟨?_, rfl⟩
      show (y 3 == some false) = false
      rw [yg]; rfl
    rcases i with _ | i
    · obtain rfl := Option.some.inj ho
      have e8 : ρ (.tmp 17) = undef := (hdep ⟨8, .data⟩ (by simp) rfl).1 17 rfl
      have yg : y 3 = some true := (hdep ⟨3, .guard⟩ (by simp) rfl).2 12 rfl
      have ocn : ∀ v, ρ (.const v) = v := fun v => hout (.const v) rfl
      have ofn : ∀ f, ρ (.func f) = .func (.func f) #[] #[] := fun f => hout (.func f) rfl
      clear hdep hout
      refine .inr ⟨?_, rfl⟩
      show (y 3 == some false) = false
      rw [yg]; rfl
    rcases i with _ | i
    · obtain rfl := Option.some.inj ho
      have e9 : ρ (.tmp 18) = undef := (hdep ⟨9, .data⟩ (by simp) rfl).1 18 rfl
      have yg : y 3 = some true := (hdep ⟨3, .guard⟩ (by simp) rfl).2 12 rfl
      have ocn : ∀ v, ρ (.const v) = v := fun v => hout (.const v) rfl
      have ofn : ∀ f, ρ (.func f) = .func (.func f) #[] #[] := fun f => hout (.func f) rfl
      clear hdep hout
      refine .inr ⟨?_, rfl⟩
      show (y 3 == some false) = false
      rw [yg]; rfl
    rcases i with _ | i
    · obtain rfl := Option.some.inj ho
      have e4 : ρ (.tmp 13) = undef := (hdep ⟨4, .data⟩ (by simp) rfl).1 13 rfl
      have e10 : ρ (.tmp 19) = undef := (hdep ⟨10, .data⟩ (by simp) rfl).1 19 rfl
      have yg : y 3 = some true := (hdep ⟨3, .guard⟩ (by simp) rfl).2 12 rfl
      have ocn : ∀ v, ρ (.const v) = v := fun v => hout (.const v) rfl
      have ofn : ∀ f, ρ (.func f) = .func (.func f) #[] #[] := fun f => hout (.func f) rfl
      clear hdep hout
      refine .inr ⟨?_, rfl⟩
      show (y 3 == some false) = false
      rw [yg]; rfl
    rcases i with _ | i
    · obtain rfl := Option.some.inj ho
      have e3 : ρ (.tmp 12) = .bool true := (hdep ⟨3, .data⟩ (by simp) rfl).1 12 rfl
      have e11 : ρ (.tmp 20) = undef := (hdep ⟨11, .data⟩ (by simp) rfl).1 20 rfl
      have ocn : ∀ v, ρ (.const v) = v := fun v => hout (.const v) rfl
      have ofn : ∀ f, ρ (.func f) = .func (.func f) #[] #[] := fun f => hout (.func f) rfl
      clear hdep hout
      refine .inl ⟨?_, ?_⟩
      · rfl
      show Gives _ _ _ (.bool true) _
      refine Gives.val ?_
      go_simp
    rcases i with _ | i
    · obtain rfl := Option.some.inj ho
      have e12 : ρ (.tmp 21) = .bool true := (hdep ⟨12, .data⟩ (by simp) rfl).1 21 rfl
      have ocn : ∀ v, ρ (.const v) = v := fun v => hout (.const v) rfl
      have ofn : ∀ f, ρ (.func f) = .func (.func f) #[] #[] := fun f => hout (.func f) rfl
      clear hdep hout
      refine .inl ⟨?_, ?_⟩
      · rfl
      show Gives _ _ _ (.bool true) _
      refine Gives.val ?_
      go_simp
    rcases i with _ | i
    · obtain rfl := Option.some.inj ho
      have o0 : ρ (.tmp 0) = v := hout (.tmp 0) rfl
      have yg : y 13 = some true := (hdep ⟨13, .guard⟩ (by simp) rfl).2 22 rfl
      have ocn : ∀ v, ρ (.const v) = v := fun v => hout (.const v) rfl
      have ofn : ∀ f, ρ (.func f) = .func (.func f) #[] #[] := fun f => hout (.func f) rfl
      clear hdep hout
      refine .inr ⟨?_, rfl⟩
      show (y 13 == some false) = false
      rw [yg]; rfl
    rcases i with _ | i
    · obtain rfl := Option.some.inj ho
      have o1 : ρ (.tmp 1) = .int .i64 n := hout (.tmp 1) rfl
      have yg : y 13 = some true := (hdep ⟨13, .guard⟩ (by simp) rfl).2 22 rfl
      have ocn : ∀ v, ρ (.const v) = v := fun v => hout (.const v) rfl
      have ofn : ∀ f, ρ (.func f) = .func (.func f) #[] #[] := fun f => hout (.func f) rfl
      clear hdep hout
      refine .inr ⟨?_, rfl⟩
      show (y 13 == some false) = false
      rw [yg]; rfl
    rcases i with _ | i
    · obtain rfl := Option.some.inj ho
      have e14 : ρ (.tmp 23) = undef := (hdep ⟨14, .data⟩ (by simp) rfl).1 23 rfl
      have e15 : ρ (.tmp 24) = undef := (hdep ⟨15, .data⟩ (by simp) rfl).1 24 rfl
      have yg : y 13 = some true := (hdep ⟨13, .guard⟩ (by simp) rfl).2 22 rfl
      have ocn : ∀ v, ρ (.const v) = v := fun v => hout (.const v) rfl
      have ofn : ∀ f, ρ (.func f) = .func (.func f) #[] #[] := fun f => hout (.func f) rfl
      clear hdep hout
      refine .inr ⟨?_, rfl⟩
      show (y 13 == some false) = false
      rw [yg]; rfl
    rcases i with _ | i
    · obtain rfl := Option.some.inj ho
      have e16 : ρ (.tmp 25) = undef := (hdep ⟨16, .data⟩ (by simp) rfl).1 25 rfl
      have yg : y 13 = some true := (hdep ⟨13, .guard⟩ (by simp) rfl).2 22 rfl
      have ocn : ∀ v, ρ (.const v) = v := fun v => hout (.const v) rfl
      have ofn : ∀ f, ρ (.func f) = .func (.func f) #[] #[] := fun f => hout (.func f) rfl
      clear hdep hout
      refine .inr ⟨?_, rfl⟩
      show (y 13 == some false) = false
      rw [yg]; rfl
    rcases i with _ | i
    · obtain rfl := Option.some.inj ho
      have e17 : ρ (.tmp 26) = undef := (hdep ⟨17, .data⟩ (by simp) rfl).1 26 rfl
      have yg : y 13 = some true := (hdep ⟨13, .guard⟩ (by simp) rfl).2 22 rfl
      have ocn : ∀ v, ρ (.const v) = v := fun v => hout (.const v) rfl
      have ofn : ∀ f, ρ (.func f) = .func (.func f) #[] #[] := fun f => hout (.func f) rfl
      clear hdep hout
      refine .inr ⟨?_, rfl⟩
      show (y 13 == some false) = false
      rw [yg]; rfl
    rcases i with _ | i
    · obtain rfl := Option.some.inj ho
      have o2 : ρ (.tmp 2) = .int .i64 m := hout (.tmp 2) rfl
      have yg : y 13 = some true := (hdep ⟨13, .guard⟩ (by simp) rfl).2 22 rfl
      have ocn : ∀ v, ρ (.const v) = v := fun v => hout (.const v) rfl
      have ofn : ∀ f, ρ (.func f) = .func (.func f) #[] #[] := fun f => hout (.func f) rfl
      clear hdep hout
      refine .inr ⟨?_, rfl⟩
      show (y 13 == some false) = false
      rw [yg]; rfl
    rcases i with _ | i
    · obtain rfl := Option.some.inj ho
      have e18 : ρ (.tmp 27) = undef := (hdep ⟨18, .data⟩ (by simp) rfl).1 27 rfl
      have e19 : ρ (.tmp 28) = undef := (hdep ⟨19, .data⟩ (by simp) rfl).1 28 rfl
      have yg : y 13 = some true := (hdep ⟨13, .guard⟩ (by simp) rfl).2 22 rfl
      have ocn : ∀ v, ρ (.const v) = v := fun v => hout (.const v) rfl
      have ofn : ∀ f, ρ (.func f) = .func (.func f) #[] #[] := fun f => hout (.func f) rfl
      clear hdep hout
      refine .inr ⟨?_, rfl⟩
      show (y 13 == some false) = false
      rw [yg]; rfl
    rcases i with _ | i
    · obtain rfl := Option.some.inj ho
      have e20 : ρ (.tmp 29) = undef := (hdep ⟨20, .data⟩ (by simp) rfl).1 29 rfl
      have yg : y 13 = some true := (hdep ⟨13, .guard⟩ (by simp) rfl).2 22 rfl
      have ocn : ∀ v, ρ (.const v) = v := fun v => hout (.const v) rfl
      have ofn : ∀ f, ρ (.func f) = .func (.func f) #[] #[] := fun f => hout (.func f) rfl
      clear hdep hout
      refine .inr ⟨?_, rfl⟩
      show (y 13 == some false) = false
      rw [yg]; rfl
    rcases i with _ | i
    · obtain rfl := Option.some.inj ho
      have o7 : ρ (.tmp 7) = .pointer (some ⟨x0.heap.size, 0, none⟩) := hout (.tmp 7) rfl
      have yg : y 13 = some true := (hdep ⟨13, .guard⟩ (by simp) rfl).2 22 rfl
      have ocn : ∀ v, ρ (.const v) = v := fun v => hout (.const v) rfl
      have ofn : ∀ f, ρ (.func f) = .func (.func f) #[] #[] := fun f => hout (.func f) rfl
      clear hdep hout
      refine .inr ⟨?_, rfl⟩
      show (y 13 == some false) = false
      rw [yg]; rfl
    rcases i with _ | i
    · obtain rfl := Option.some.inj ho
      have e21 : ρ (.tmp 30) = undef := (hdep ⟨21, .data⟩ (by simp) rfl).1 30 rfl
      have e22 : ρ (.tmp 31) = undef := (hdep ⟨22, .data⟩ (by simp) rfl).1 31 rfl
      have yg : y 13 = some true := (hdep ⟨13, .guard⟩ (by simp) rfl).2 22 rfl
      have ocn : ∀ v, ρ (.const v) = v := fun v => hout (.const v) rfl
      have ofn : ∀ f, ρ (.func f) = .func (.func f) #[] #[] := fun f => hout (.func f) rfl
      clear hdep hout
      refine .inr ⟨?_, rfl⟩
      show (y 13 == some false) = false
      rw [yg]; rfl
    rcases i with _ | i
    · obtain rfl := Option.some.inj ho
      have e23 : ρ (.tmp 32) = undef := (hdep ⟨23, .data⟩ (by simp) rfl).1 32 rfl
      have yg : y 13 = some true := (hdep ⟨13, .guard⟩ (by simp) rfl).2 22 rfl
      have ocn : ∀ v, ρ (.const v) = v := fun v => hout (.const v) rfl
      have ofn : ∀ f, ρ (.func f) = .func (.func f) #[] #[] := fun f => hout (.func f) rfl
      clear hdep hout
      refine .inr ⟨?_, rfl⟩
      show (y 13 == some false) = false
      rw [yg]; rfl
    rcases i with _ | i
    · obtain rfl := Option.some.inj ho
      have e13 : ρ (.tmp 22) = .bool true := (hdep ⟨13, .data⟩ (by simp) rfl).1 22 rfl
      have e24 : ρ (.tmp 33) = undef := (hdep ⟨24, .data⟩ (by simp) rfl).1 33 rfl
      have ocn : ∀ v, ρ (.const v) = v := fun v => hout (.const v) rfl
      have ofn : ∀ f, ρ (.func f) = .func (.func f) #[] #[] := fun f => hout (.func f) rfl
      clear hdep hout
      refine .inl ⟨?_, ?_⟩
      · rfl
      show Gives _ _ _ (.bool true) _
      refine Gives.val ?_
      go_simp
    cases ho
  case fin =>
    intro x hBx
    have hBf := HK.out.trans (hBx.mono HK.out.size)
    go_wp2_with fail
    go_ret
    exact ⟨_, rfl, ⟨_, _, rfl⟩, by first | exact hBf | exact hBf.alloc hBf.size _⟩

set_option maxRecDepth 100000 in
set_option maxHeartbeats 8000000 in
theorem l12Sites_any (x0 : World) (B : Nat) (v : Value) (P : List (List I4)) (h : ProgAt x0 B v P) (n m : Nat) (hn : n < P.length) (hm : m ≤ (P.getD n []).length) (hok : progOkF P = true) (z : Bool) (C E : Nat) (s : Value) (L : List Sp) (c : Bool) (l u : Int) (hs : SpsAt z x0 C E s L) (hL : L.length = 3) :
    Calls Try.prog 53 #[v, .int .i64 n, .int .i64 m, .agg #[.bool true, s, .bool c, .int .i64 l, .int .i64 u]] x0 fun e y => ∃ r, e = .returned r ∧ SitesAt y x0.heap.size y.heap.size r (siteF (P.getD n []) n m L) ∧ Below x0.heap.size x0 y := by
  obtain ⟨p, cap, rfl, _⟩ := h.shape
  obtain ⟨ps, cs, rfl⟩ := hs.shape
  rw [hL] at hs ⊢
  obtain ⟨g, o, rfl, hg, hq⟩ := hs.threeF hL
  have HQ : Hid (Rg3 x0 g o L) := ⟨hg, hq⟩
  obtain ⟨g0, oo, uu, rfl, hg0, hu, hc⟩ := h.code hn
  obtain ⟨pk, ck, rfl, _⟩ := hc.shape
  have HC : Hid (CodeAt x0 B (.slice pk (P.getD n []).length ck) (P.getD n [])) := hc
  have h8 := (progOkF_code hok hn).1
  have hl4 := (progOkF_len hok).2
  have HI : Hid (∀ j, j < (P.getD n []).length → insOkF ((P.getD n []).getD j i0) (P.getD n []).length P.length = true) := (progOkF_code hok hn).2
  clear hc h hs hq hok hL
  have HN : Hid (n = n) := rfl
  generalize P.getD n [] = K at *
  have hki : (n : Int) < (P.length : Int) := by omega
  have hn4 : (P.length : Int) ≤ 4 := by omega
  have hc8 : (K.length : Int) ≤ 8 := by omega
  have HK : Hid (Below x0.heap.size x0 (x0.alloc (.cells #[.bool true, .slice (some ⟨g, o, none⟩) 3 cs, .bool c, .int .i64 l, .int .i64 u] 36))) := (Below.refl _ _).alloc (Nat.le_refl _) _
  have HB0 : Hid (Bx5 (x0.alloc (.cells #[.bool true, .slice (some ⟨g, o, none⟩) 3 cs, .bool c, .int .i64 l, .int .i64 u] 36)) x0.heap.size (.bool true) (.slice (some ⟨g, o, none⟩) 3 cs) (.bool c) (.int .i64 l) (.int .i64 u)) := Bx5.new _ _ _ _ _ _ _
  by_cases he : m = K.length
  · have hsf : siteF K n m L = none := by simp only [siteF, he, if_true]
    rw [hsf]
    obtain ⟨len, hlen⟩ : ∃ len, K.length = len := ⟨_, rfl⟩
    rw [hlen] at he hu hc8
    subst he
    clear HC HI hsf hm hlen h8
    go_enter Try.func53, Try.ntmps53
    go_wp2_with fail
    generalize x0.alloc (.cells #[.bool true, .slice (some ⟨g, o, none⟩) 3 cs, .bool c, .int .i64 l, .int .i64 u] 36) = X at HK HB0 ⊢
    have HD0 : Hid (X.cell? ⟨g0, oo + n, none⟩ = some (.slice pk m ck)) := (HK.out.cell (p := ⟨g0, oo + n, none⟩) hg0).trans hu
    have hgX : g0 < X.heap.size := Nat.lt_of_lt_of_le hg0 HK.out.size
    clear hu
    refine wp_region_vals (by kernel_rfl) (by kernel_rfl) (by kernel_rfl) (by kernel_rfl) (fun j => [.pointer (some ⟨x0.heap.size, 0, none⟩), .bool true, .bool false, .bool false, .int .i64 m, .slice (some ⟨g0, oo, none⟩) P.length cap, .int .i64 n, .pointer (some ⟨g0, oo + n, none⟩), .pointer (some ⟨g0, oo + n, none⟩), .slice pk m ck, .int .i64 m, .bool true, .bool true, .bool true, undef, undef, undef, undef, undef, undef, undef, undef, undef, undef, undef, .bool true].getD j undef) X (Below.drew (Below.refl _ _)) ?step ⟨#[.slice (some ⟨g0, oo, none⟩) P.length cap, .int .i64 n, .int .i64 m, .agg #[.bool true, .slice (some ⟨g, o, none⟩) 3 cs, .bool c, .int .i64 l, .int .i64 u], undef, undef, undef, .pointer (some ⟨x0.heap.size, 0, none⟩), .slice none 0 0, .pointer (some ⟨x0.heap.size, 0, none⟩), .bool true, .bool false, .bool false, .int .i64 m, .slice (some ⟨g0, oo, none⟩) P.length cap, .int .i64 n, .pointer (some ⟨g0, oo + n, none⟩), .pointer (some ⟨g0, oo + n, none⟩), .slice pk m ck, .int .i64 m, .bool true, .bool true, .bool true, undef, undef, undef, undef, undef, undef, undef, undef, undef, undef, undef, .bool true, undef, undef, undef, undef, undef, undef, undef, undef, undef, undef, undef, undef, undef, undef], []⟩ (by kernel_rfl) ?fin
    case step =>
      intro i o ho ρ y x hBx hdep hout
      rcases i with _ | i
      · obtain rfl := Option.some.inj ho
        have o7 : ρ (.tmp 7) = .pointer (some ⟨x0.heap.size, 0, none⟩) := hout (.tmp 7) rfl
        have ocn : ∀ v, ρ (.const v) = v := fun v => hout (.const v) rfl
        have ofn : ∀ f, ρ (.func f) = .func (.func f) #[] #[] := fun f => hout (.func f) rfl
        clear hdep hout
        refine .inl ⟨?_, ?_⟩
        · rfl
        show Gives _ _ _ (.pointer (some ⟨x0.heap.size, 0, none⟩)) _
        refine Gives.val ?_
        go_simp
      rcases i with _ | i
      · obtain rfl := Option.some.inj ho
        have e0 : ρ (.tmp 9) = .pointer (some ⟨x0.heap.size, 0, none⟩) := (hdep ⟨0, .data⟩ (by simp) rfl).1 9 rfl
        have ocn : ∀ v, ρ (.const v) = v := fun v => hout (.const v) rfl
        have ofn : ∀ f, ρ (.func f) = .func (.func f) #[] #[] := fun f => hout (.func f) rfl
        clear hdep hout
        refine .inl ⟨?_, ?_⟩
        · rfl
        obtain ⟨_, b0, b1, b2, b3, b4, _⟩ := HB0.out.later hBx
        show Gives _ _ _ (.bool true) _
        refine Gives.val ?_
        go_simp
      rcases i with _ | i
      · obtain rfl := Option.some.inj ho
        have e1 : ρ (.tmp 10) = .bool true := (hdep ⟨1, .data⟩ (by simp) rfl).1 10 rfl
        have ocn : ∀ v, ρ (.const v) = v := fun v => hout (.const v) rfl
        have ofn : ∀ f, ρ (.func f) = .func (.func f) #[] #[] := fun f => hout (.func f) rfl
        clear hdep hout
        refine .inl ⟨?_, ?_⟩
        · rfl
        show Gives _ _ _ (.bool false) _
        refine Gives.val ?_
        go_simp
      rcases i with _ | i
      · obtain rfl := Option.some.inj ho
        have e2 : ρ (.tmp 11) = .bool false := (hdep ⟨2, .data⟩ (by simp) rfl).1 11 rfl
        have ocn : ∀ v, ρ (.const v) = v := fun v => hout (.const v) rfl
        have ofn : ∀ f, ρ (.func f) = .func (.func f) #[] #[] := fun f => hout (.func f) rfl
        clear hdep hout
        refine .inl ⟨?_, ?_⟩
        · rfl
        show Gives _ _ _ (.bool false) _
        refine Gives.val ?_
        go_simp
      rcases i with _ | i
      · obtain rfl := Option.some.inj ho
        have o2 : ρ (.tmp 2) = .int .i64 m := hout (.tmp 2) rfl
        have yg : y 3 = some false := (hdep ⟨3, .guard⟩ (by simp) rfl).2 12 rfl
        have ocn : ∀ v, ρ (.const v) = v := fun v => hout (.const v) rfl
        have ofn : ∀ f, ρ (.func f) = .func (.func f) #[] #[] := fun f => hout (.func f) rfl
        clear hdep hout
        refine .inl ⟨?_, ?_⟩
        · show (y 3 == some false) = true
          rw [yg]; rfl
        show Gives _ _ _ (.int .i64 m) _
        refine Gives.val ?_
        go_simp
      rcases i with _ | i
      · obtain rfl := Option.some.inj ho
        have o0 : ρ (.tmp 0) = .slice (some ⟨g0, oo, none⟩) P.length cap := hout (.tmp 0) rfl
        have yg : y 3 = some false := (hdep ⟨3, .guard⟩ (by simp) rfl).2 12 rfl
        have ocn : ∀ v, ρ (.const v) = v := fun v => hout (.const v) rfl
        have ofn : ∀ f, ρ (.func f) = .func (.func f) #[] #[] := fun f => hout (.func f) rfl
        clear hdep hout
        refine .inl ⟨?_, ?_⟩
        · show (y 3 == some false) = true
          rw [yg]; rfl
        show Gives _ _ _ (.slice (some ⟨g0, oo, none⟩) P.length cap) _
        refine Gives.val ?_
        go_simp
      rcases i with _ | i
      · obtain rfl := Option.some.inj ho
        have o1 : ρ (.tmp 1) = .int .i64 n := hout (.tmp 1) rfl
        have yg : y 3 = some false := (hdep ⟨3, .guard⟩ (by simp) rfl).2 12 rfl
        have ocn : ∀ v, ρ (.const v) = v := fun v => hout (.const v) rfl
        have ofn : ∀ f, ρ (.func f) = .func (.func f) #[] #[] := fun f => hout (.func f) rfl
        clear hdep hout
        refine .inl ⟨?_, ?_⟩
        · show (y 3 == some false) = true
          rw [yg]; rfl
        show Gives _ _ _ (.int .i64 n) _
        refine Gives.val ?_
        go_simp
      rcases i with _ | i
      · obtain rfl := Option.some.inj ho
        have e5 : ρ (.tmp 14) = .slice (some ⟨g0, oo, none⟩) P.length cap := (hdep ⟨5, .data⟩ (by simp) rfl).1 14 rfl
        have e6 : ρ (.tmp 15) = .int .i64 n := (hdep ⟨6, .data⟩ (by simp) rfl).1 15 rfl
        have yg : y 3 = some false := (hdep ⟨3, .guard⟩ (by simp) rfl).2 12 rfl
        have ocn : ∀ v, ρ (.const v) = v := fun v => hout (.const v) rfl
        have ofn : ∀ f, ρ (.func f) = .func (.func f) #[] #[] := fun f => hout (.func f) rfl
        clear hdep hout
        refine .inl ⟨?_, ?_⟩
        · show (y 3 == some false) = true
          rw [yg]; rfl
        show Gives _ _ _ (.pointer (some ⟨g0, oo + n, none⟩)) _
        refine Gives.val ?_
        go_simp
      rcases i with _ | i
      · obtain rfl := Option.some.inj ho
        have e7 : ρ (.tmp 16) = .pointer (some ⟨g0, oo + n, none⟩) := (hdep ⟨7, .data⟩ (by simp) rfl).1 16 rfl
        have yg : y 3 = some false := (hdep ⟨3, .guard⟩ (by simp) rfl).2 12 rfl
        have ocn : ∀ v, ρ (.const v) = v := fun v => hout (.const v) rfl
        have ofn : ∀ f, ρ (.func f) = .func (.func f) #[] #[] := fun f => hout (.func f) rfl
        clear hdep hout
        refine .inl ⟨?_, ?_⟩
        · show (y 3 == some false) = true
          rw [yg]; rfl
        show Gives _ _ _ (.pointer (some ⟨g0, oo + n, none⟩)) _
        refine Gives.val ?_
        go_simp
      rcases i with _ | i
      · obtain rfl := Option.some.inj ho
        have e8 : ρ (.tmp 17) = .pointer (some ⟨g0, oo + n, none⟩) := (hdep ⟨8, .data⟩ (by simp) rfl).1 17 rfl
        have yg : y 3 = some false := (hdep ⟨3, .guard⟩ (by simp) rfl).2 12 rfl
        have ocn : ∀ v, ρ (.const v) = v := fun v => hout (.const v) rfl
        have ofn : ∀ f, ρ (.func f) = .func (.func f) #[] #[] := fun f => hout (.func f) rfl
        clear hdep hout
        refine .inl ⟨?_, ?_⟩
        · show (y 3 == some false) = true
          rw [yg]; rfl
        have d0 := (hBx.cell (p := ⟨g0, oo + n, none⟩) hgX).trans HD0.out
        show Gives _ _ _ (.slice pk m ck) _
        refine Gives.val ?_
        go_simp
      rcases i with _ | i
      · obtain rfl := Option.some.inj ho
        have e9 : ρ (.tmp 18) = .slice pk m ck := (hdep ⟨9, .data⟩ (by simp) rfl).1 18 rfl
        have yg : y 3 = some false := (hdep ⟨3, .guard⟩ (by simp) rfl).2 12 rfl
        have ocn : ∀ v, ρ (.const v) = v := fun v => hout (.const v) rfl
        have ofn : ∀ f, ρ (.func f) = .func (.func f) #[] #[] := fun f => hout (.func f) rfl
        clear hdep hout
        refine .inl ⟨?_, ?_⟩
        · show (y 3 == some false) = true
          rw [yg]; rfl
        show Gives _ _ _ (.int .i64 m) _
        refine Gives.val ?_
        go_simp
      rcases i with _ | i
      · obtain rfl := Option.some.inj ho
        have e4 : ρ (.tmp 13) = .int .i64 m := (hdep ⟨4, .data⟩ (by simp) rfl).1 13 rfl
        have e10 : ρ (.tmp 19) = .int .i64 m := (hdep ⟨10, .data⟩ (by simp) rfl).1 19 rfl
        have yg : y 3 = some false := (hdep ⟨3, .guard⟩ (by simp) rfl).2 12 rfl
        have ocn : ∀ v, ρ (.const v) = v := fun v => hout (.const v) rfl
        have ofn : ∀ f, ρ (.func f) = .func (.func f) #[] #[] := fun f => hout (.func f) rfl
        clear hdep hout
        refine .inl ⟨?_, ?_⟩
        · show (y 3 == some false) = true
          rw [yg]; rfl
        show Gives _ _ _ (.bool true) _
        refine Gives.val ?_
        go_simp
      rcases i with _ | i
      · obtain rfl := Option.some.inj ho
        have e3 : ρ (.tmp 12) = .bool false := (hdep ⟨3, .data⟩ (by simp) rfl).1 12 rfl
        have e11 : ρ (.tmp 20) = .bool true := (hdep ⟨11, .data⟩ (by simp) rfl).1 20 rfl
        have ocn : ∀ v, ρ (.const v) = v := fun v => hout (.const v) rfl
        have ofn : ∀ f, ρ (.func f) = .func (.func f) #[] #[] := fun f => hout (.func f) rfl
        clear hdep hout
        refine .inl ⟨?_, ?_⟩
        · rfl
        show Gives _ _ _ (.bool true) _
        refine Gives.val ?_
        go_simp
      rcases i with _ | i
      · obtain rfl := Option.some.inj ho
        have e12 : ρ (.tmp 21) = .bool true := (hdep ⟨12, .data⟩ (by simp) rfl).1 21 rfl
        have ocn : ∀ v, ρ (.const v) = v := fun v => hout (.const v) rfl
        have ofn : ∀ f, ρ (.func f) = .func (.func f) #[] #[] := fun f => hout (.func f) rfl
        clear hdep hout
        refine .inl ⟨?_, ?_⟩
        · rfl
        show Gives _ _ _ (.bool true) _
        refine Gives.val ?_
        go_simp
      rcases i with _ | i
      · obtain rfl := Option.some.inj ho
        have o0 : ρ (.tmp 0) = .slice (some ⟨g0, oo, none⟩) P.length cap := hout (.tmp 0) rfl
        have yg : y 13 = some true := (hdep ⟨13, .guard⟩ (by simp) rfl).2 22 rfl
        have ocn : ∀ v, ρ (.const v) = v := fun v => hout (.const v) rfl
        have ofn : ∀ f, ρ (.func f) = .func (.func f) #[] #[] := fun f => hout (.func f) rfl
        clear hdep hout
        refine .inr ⟨?_, rfl⟩
        show (y 13 == some false) = false
        rw [yg]; rfl
      rcases i with _ | i
      · obtain rfl := Option.some.inj ho
        have o1 : ρ (.tmp 1) = .int .i64 n := hout (.tmp 1) rfl
        have yg : y 13 = some true := (hdep ⟨13, .guard⟩ (by simp) rfl).2 22 rfl
        have ocn : ∀ v, ρ (.const v) = v := fun v => hout (.const v) rfl
        have ofn : ∀ f, ρ (.func f) = .func (.func f) #[] #[] := fun f => hout (.func f) rfl
        clear hdep hout
        refine .inr ⟨?_, rfl⟩
        show (y 13 == some false) = false
        rw [yg]; rfl
      rcases i with _ | i
      · obtain rfl := Option.some.inj ho
        have e14 : ρ (.tmp 23) = undef := (hdep ⟨14, .data⟩ (by simp) rfl).1 23 rfl
        have e15 : ρ (.tmp 24) = undef := (hdep ⟨15, .data⟩ (by simp) rfl).1 24 rfl
        have yg : y 13 = some true := (hdep ⟨13, .guard⟩ (by simp) rfl).2 22 rfl
        have ocn : ∀ v, ρ (.const v) = v := fun v => hout (.const v) rfl
        have ofn : ∀ f, ρ (.func f) = .func (.func f) #[] #[] := fun f => hout (.func f) rfl
        clear hdep hout
        refine .inr ⟨?_, rfl⟩
        show (y 13 == some false) = false
        rw [yg]; rfl
      rcases i with _ | i
      · obtain rfl := Option.some.inj ho
        have e16 : ρ (.tmp 25) = undef := (hdep ⟨16, .data⟩ (by simp) rfl).1 25 rfl
        have yg : y 13 = some true := (hdep ⟨13, .guard⟩ (by simp) rfl).2 22 rfl
        have ocn : ∀ v, ρ (.const v) = v := fun v => hout (.const v) rfl
        have ofn : ∀ f, ρ (.func f) = .func (.func f) #[] #[] := fun f => hout (.func f) rfl
        clear hdep hout
        refine .inr ⟨?_, rfl⟩
        show (y 13 == some false) = false
        rw [yg]; rfl
      rcases i with _ | i
      · obtain rfl := Option.some.inj ho
        have e17 : ρ (.tmp 26) = undef := (hdep ⟨17, .data⟩ (by simp) rfl).1 26 rfl
        have yg : y 13 = some true := (hdep ⟨13, .guard⟩ (by simp) rfl).2 22 rfl
        have ocn : ∀ v, ρ (.const v) = v := fun v => hout (.const v) rfl
        have ofn : ∀ f, ρ (.func f) = .func (.func f) #[] #[] := fun f => hout (.func f) rfl
        clear hdep hout
        refine .inr ⟨?_, rfl⟩
        show (y 13 == some false) = false
        rw [yg]; rfl
      rcases i with _ | i
      · obtain rfl := Option.some.inj ho
        have o2 : ρ (.tmp 2) = .int .i64 m := hout (.tmp 2) rfl
        have yg : y 13 = some true := (hdep ⟨13, .guard⟩ (by simp) rfl).2 22 rfl
        have ocn : ∀ v, ρ (.const v) = v := fun v => hout (.const v) rfl
        have ofn : ∀ f, ρ (.func f) = .func (.func f) #[] #[] := fun f => hout (.func f) rfl
        clear hdep hout
        refine .inr ⟨?_, rfl⟩
        show (y 13 == some false) = false
        rw [yg]; rfl
      rcases i with _ | i
      · obtain rfl := Option.some.inj ho
        have e18 : ρ (.tmp 27) = undef := (hdep ⟨18, .data⟩ (by simp) rfl).1 27 rfl
        have e19 : ρ (.tmp 28) = undef := (hdep ⟨19, .data⟩ (by simp) rfl).1 28 rfl
        have yg : y 13 = some true := (hdep ⟨13, .guard⟩ (by simp) rfl).2 22 rfl
        have ocn : ∀ v, ρ (.const v) = v := fun v => hout (.const v) rfl
        have ofn : ∀ f, ρ (.func f) = .func (.func f) #[] #[] := fun f => hout (.func f) rfl
        clear hdep hout
        refine .inr ⟨?_, rfl⟩
        show (y 13 == some false) = false
        rw [yg]; rfl
      rcases i with _ | i
      · obtain rfl := Option.some.inj ho
        have e20 : ρ (.tmp 29) = undef := (hdep ⟨20, .data⟩ (by simp) rfl).1 29 rfl
        have yg : y 13 = some true := (hdep ⟨13, .guard⟩ (by simp) rfl).2 22 rfl
        have ocn : ∀ v, ρ (.const v) = v := fun v => hout (.const v) rfl
        have ofn : ∀ f, ρ (.func f) = .func (.func f) #[] #[] := fun f => hout (.func f) rfl
        clear hdep hout
        refine .inr ⟨?_, rfl⟩
        show (y 13 == some false) = false
        rw [yg]; rfl
      rcases i with _ | i
      · obtain rfl := Option.some.inj ho
        have o7 : ρ (.tmp 7) = .pointer (some ⟨x0.heap.size, 0, none⟩) := hout (.tmp 7) rfl
        have yg : y 13 = some true := (hdep ⟨13, .guard⟩ (by simp) rfl).2 22 rfl
        have ocn : ∀ v, ρ (.const v) = v := fun v => hout (.const v) rfl
        have ofn : ∀ f, ρ (.func f) = .func (.func f) #[] #[] := fun f => hout (.func f) rfl
        clear hdep hout
        refine .inr ⟨?_, rfl⟩
        show (y 13 == some false) = false
        rw [yg]; rfl
      rcases i with _ | i
      · obtain rfl := Option.some.inj ho
        have e21 : ρ (.tmp 30) = undef := (hdep ⟨21, .data⟩ (by simp) rfl).1 30 rfl
        have e22 : ρ (.tmp 31) = undef := (hdep ⟨22, .data⟩ (by simp) rfl).1 31 rfl
        have yg : y 13 = some true := (hdep ⟨13, .guard⟩ (by simp) rfl).2 22 rfl
        have ocn : ∀ v, ρ (.const v) = v := fun v => hout (.const v) rfl
        have ofn : ∀ f, ρ (.func f) = .func (.func f) #[] #[] := fun f => hout (.func f) rfl
        clear hdep hout
        refine .inr ⟨?_, rfl⟩
        show (y 13 == some false) = false
        rw [yg]; rfl
      rcases i with _ | i
      · obtain rfl := Option.some.inj ho
        have e23 : ρ (.tmp 32) = undef := (hdep ⟨23, .data⟩ (by simp) rfl).1 32 rfl
        have yg : y 13 = some true := (hdep ⟨13, .guard⟩ (by simp) rfl).2 22 rfl
        have ocn : ∀ v, ρ (.const v) = v := fun v => hout (.const v) rfl
        have ofn : ∀ f, ρ (.func f) = .func (.func f) #[] #[] := fun f => hout (.func f) rfl
        clear hdep hout
        refine .inr ⟨?_, rfl⟩
        show (y 13 == some false) = false
        rw [yg]; rfl
      rcases i with _ | i
      · obtain rfl := Option.some.inj ho
        have e13 : ρ (.tmp 22) = .bool true := (hdep ⟨13, .data⟩ (by simp) rfl).1 22 rfl
        have e24 : ρ (.tmp 33) = undef := (hdep ⟨24, .data⟩ (by simp) rfl).1 33 rfl
        have ocn : ∀ v, ρ (.const v) = v := fun v => hout (.const v) rfl
        have ofn : ∀ f, ρ (.func f) = .func (.func f) #[] #[] := fun f => hout (.func f) rfl
        clear hdep hout
        refine .inl ⟨?_, ?_⟩
        · rfl
        show Gives _ _ _ (.bool true) _
        refine Gives.val ?_
        go_simp
      cases ho
    case fin =>
      intro x hBx
      have hBf := HK.out.trans (hBx.mono HK.out.size)
      go_wp2_with fail
      go_ret
      exact ⟨_, rfl, ⟨_, _, rfl⟩, by first | exact hBf | exact hBf.alloc hBf.size _⟩
  · have hlt : m < K.length := by omega
    obtain ⟨g2, o2, rfl, hg2, hI4⟩ := HC.out.ins hlt
    have hins := HI.out m hlt
    have hk := insOkF_kind hins
    have hr := insOkF_regs hins
    have hsf : siteF K n m L = if mayF (K.getD m i0) L = true then some ((n : Int), (m : Int), faultF (K.getD m i0)) else none := by simp only [siteF, he, if_false]
    rw [hsf]
    obtain ⟨len, hlen⟩ : ∃ len, K.length = len := ⟨_, rfl⟩
    rw [hlen] at he hu hc8 hlt
    have hmi : (m : Int) < (len : Int) := by omega
    have hne : ((m : Int) == (len : Int)) = false := by simp; omega
    clear HC HI hsf hm hlen h8 hins
    generalize K.getD m i0 = I at *
    obtain ⟨f, hf⟩ : ∃ f, mayF I L = f := ⟨_, rfl⟩
    have HWI : Hid (∀ z : World, Rg3 z g o L → Calls Try.prog 89 #[aggI I, .agg #[.bool true, .slice (some ⟨g, o, none⟩) 3 cs, .bool c, .int .i64 l, .int .i64 u]] z fun e y => e = .returned (.bool f) ∧ Below z.heap.size z y) := fun z hz => by have := l12Wrong_any z I hk.1 hk.2.1 hr true c l u g o cs L hz; rw [hf] at this; exact this
    have HFT : Hid (∀ z : World, Calls Try.prog 90 #[aggI I] z fun e y => e = .returned (.int .i64 (faultF I)) ∧ Below z.heap.size z y) := fun z => l3May_any I hk.1 hk.2.1 z
    rw [hf]
    clear hf hk hr
    generalize faultF I = F at HFT ⊢
    unfold aggI at HWI HFT
    obtain ⟨i1, i2, i3, i4⟩ := I
    simp only at HWI HFT hI4
    have HI0' : Hid (Ins4 x0 g2 (o2 + m * 4) (i1, i2, i3, i4)) := hI4
    clear hI4
    go_enter Try.func53, Try.ntmps53
    go_wp2_with fail
    generalize x0.alloc (.cells #[.bool true, .slice (some ⟨g, o, none⟩) 3 cs, .bool c, .int .i64 l, .int .i64 u] 36) = X at HK HB0 ⊢
    have HD0 : Hid (X.cell? ⟨g0, oo + n, none⟩ = some (.slice (some ⟨g2, o2, none⟩) len ck)) := (HK.out.cell (p := ⟨g0, oo + n, none⟩) hg0).trans hu
    have hgX : g0 < X.heap.size := Nat.lt_of_lt_of_le hg0 HK.out.size
    have hg2X : g2 < X.heap.size := Nat.lt_of_lt_of_le hg2 HK.out.size
    have HI0 : Hid (Ins4 X g2 (o2 + m * 4) (i1, i2, i3, i4)) := HI0'.out.later HK.out hg2
    have HW : Hid (∀ z : World, Below X.heap.size X z → Calls Try.prog 89 #[.agg #[.int .i64 i1, .int .i64 i2, .int .i64 i3, .int .i64 i4], .agg #[.bool true, .slice (some ⟨g, o, none⟩) 3 cs, .bool c, .int .i64 l, .int .i64 u]] z fun e y => e = .returned (.bool f) ∧ Below z.heap.size z y) := fun z hz => HWI.out z ((HQ.out.later HK.out).later hz)
    clear hu HWI HI0'
    cases f
    · skip
      refine wp_region_vals (by kernel_rfl) (by kernel_rfl) (by kernel_rfl) (by kernel_rfl) (fun j => [.pointer (some ⟨x0.heap.size, 0, none⟩), .bool true, .bool false, .bool false, .int .i64 m, .slice (some ⟨g0, oo, none⟩) P.length cap, .int .i64 n, .pointer (some ⟨g0, oo + n, none⟩), .pointer (some ⟨g0, oo + n, none⟩), .slice (some ⟨g2, o2, none⟩) len ck, .int .i64 len, .bool false, .bool false, .bool false, .slice (some ⟨g0, oo, none⟩) P.length cap, .int .i64 n, .pointer (some ⟨g0, oo + n, none⟩), .pointer (some ⟨g0, oo + n, none⟩), .slice (some ⟨g2, o2, none⟩) len ck, .int .i64 m, .pointer (some ⟨g2, o2 + m * 4, none⟩), .agg #[.int .i64 i1, .int .i64 i2, .int .i64 i3, .int .i64 i4], .agg #[.bool true, .slice (some ⟨g, o, none⟩) 3 cs, .bool c, .int .i64 l, .int .i64 u], .bool false, .bool true, .bool true].getD j undef) X (Below.drew (Below.refl _ _)) ?step ⟨#[.slice (some ⟨g0, oo, none⟩) P.length cap, .int .i64 n, .int .i64 m, .agg #[.bool true, .slice (some ⟨g, o, none⟩) 3 cs, .bool c, .int .i64 l, .int .i64 u], undef, undef, undef, .pointer (some ⟨x0.heap.size, 0, none⟩), .slice none 0 0, .pointer (some ⟨x0.heap.size, 0, none⟩), .bool true, .bool false, .bool false, .int .i64 m, .slice (some ⟨g0, oo, none⟩) P.length cap, .int .i64 n, .pointer (some ⟨g0, oo + n, none⟩), .pointer (some ⟨g0, oo + n, none⟩), .slice (some ⟨g2, o2, none⟩) len ck, .int .i64 len, .bool false, .bool false, .bool false, .slice (some ⟨g0, oo, none⟩) P.length cap, .int .i64 n, .pointer (some ⟨g0, oo + n, none⟩), .pointer (some ⟨g0, oo + n, none⟩), .slice (some ⟨g2, o2, none⟩) len ck, .int .i64 m, .pointer (some ⟨g2, o2 + m * 4, none⟩), .agg #[.int .i64 i1, .int .i64 i2, .int .i64 i3, .int .i64 i4], .agg #[.bool true, .slice (some ⟨g, o, none⟩) 3 cs, .bool c, .int .i64 l, .int .i64 u], .bool false, .bool true, .bool true, undef, undef, undef, undef, undef, undef, undef, undef, undef, undef, undef, undef, undef, undef], []⟩ (by kernel_rfl) ?fin
      case step =>
        intro i o ho ρ y x hBx hdep hout
        rcases i with _ | i
        · obtain rfl := Option.some.inj ho
          have o7 : ρ (.tmp 7) = .pointer (some ⟨x0.heap.size, 0, none⟩) := hout (.tmp 7) rfl
          have ocn : ∀ v, ρ (.const v) = v := fun v => hout (.const v) rfl
          have ofn : ∀ f, ρ (.func f) = .func (.func f) #[] #[] := fun f => hout (.func f) rfl
          clear hdep hout
          refine .inl ⟨?_, ?_⟩
          · rfl
          show Gives _ _ _ (.pointer (some ⟨x0.heap.size, 0, none⟩)) _
          refine Gives.val ?_
          go_simp
        rcases i with _ | i
        · obtain rfl := Option.some.inj ho
          have e0 : ρ (.tmp 9) = .pointer (some ⟨x0.heap.size, 0, none⟩) := (hdep ⟨0, .data⟩ (by simp) rfl).1 9 rfl
          have ocn : ∀ v, ρ (.const v) = v := fun v => hout (.const v) rfl
          have ofn : ∀ f, ρ (.func f) = .func (.func f) #[] #[] := fun f => hout (.func f) rfl
          clear hdep hout
          refine .inl ⟨?_, ?_⟩
          · rfl
          obtain ⟨_, b0, b1, b2, b3, b4, _⟩ := HB0.out.later hBx
          show Gives _ _ _ (.bool true) _
          refine Gives.val ?_
          go_simp
        rcases i with _ | i
        · obtain rfl := Option.some.inj ho
          have e1 : ρ (.tmp 10) = .bool true := (hdep ⟨1, .data⟩ (by simp) rfl).1 10 rfl
          have ocn : ∀ v, ρ (.const v) = v := fun v => hout (.const v) rfl
          have ofn : ∀ f, ρ (.func f) = .func (.func f) #[] #[] := fun f => hout (.func f) rfl
          clear hdep hout
          refine .inl ⟨?_, ?_⟩
          · rfl
          show Gives _ _ _ (.bool false) _
          refine Gives.val ?_
          go_simp
        rcases i with _ | i
        · obtain rfl := Option.some.inj ho
          have e2 : ρ (.tmp 11) = .bool false := (hdep ⟨2, .data⟩ (by simp) rfl).1 11 rfl
          have ocn : ∀ v, ρ (.const v) = v := fun v => hout (.const v) rfl
          have ofn : ∀ f, ρ (.func f) = .func (.func f) #[] #[] := fun f => hout (.func f) rfl
          clear hdep hout
          refine .inl ⟨?_, ?_⟩
          · rfl
          show Gives _ _ _ (.bool false) _
          refine Gives.val ?_
          go_simp
        rcases i with _ | i
        · obtain rfl := Option.some.inj ho
          have o2 : ρ (.tmp 2) = .int .i64 m := hout (.tmp 2) rfl
          have yg : y 3 = some false := (hdep ⟨3, .guard⟩ (by simp) rfl).2 12 rfl
          have ocn : ∀ v, ρ (.const v) = v := fun v => hout (.const v) rfl
          have ofn : ∀ f, ρ (.func f) = .func (.func f) #[] #[] := fun f => hout (.func f) rfl
          clear hdep hout
          refine .inl ⟨?_, ?_⟩
          · show (y 3 == some false) = true
            rw [yg]; rfl
          show Gives _ _ _ (.int .i64 m) _
          refine Gives.val ?_
          go_simp
        rcases i with _ | i
        · obtain rfl := Option.some.inj ho
          have o0 : ρ (.tmp 0) = .slice (some ⟨g0, oo, none⟩) P.length cap := hout (.tmp 0) rfl
          have yg : y 3 = some false := (hdep ⟨3, .guard⟩ (by simp) rfl).2 12 rfl
          have ocn : ∀ v, ρ (.const v) = v := fun v => hout (.const v) rfl
          have ofn : ∀ f, ρ (.func f) = .func (.func f) #[] #[] := fun f => hout (.func f) rfl
          clear hdep hout
          refine .inl ⟨?_, ?_⟩
          · show (y 3 == some false) = true
            rw [yg]; rfl
          show Gives _ _ _ (.slice (some ⟨g0, oo, none⟩) P.length cap) _
          refine Gives.val ?_
          go_simp
        rcases i with _ | i
        · obtain rfl := Option.some.inj ho
          have o1 : ρ (.tmp 1) = .int .i64 n := hout (.tmp 1) rfl
          have yg : y 3 = some false := (hdep ⟨3, .guard⟩ (by simp) rfl).2 12 rfl
          have ocn : ∀ v, ρ (.const v) = v := fun v => hout (.const v) rfl
          have ofn : ∀ f, ρ (.func f) = .func (.func f) #[] #[] := fun f => hout (.func f) rfl
          clear hdep hout
          refine .inl ⟨?_, ?_⟩
          · show (y 3 == some false) = true
            rw [yg]; rfl
          show Gives _ _ _ (.int .i64 n) _
          refine Gives.val ?_
          go_simp
        rcases i with _ | i
        · obtain rfl := Option.some.inj ho
          have e5 : ρ (.tmp 14) = .slice (some ⟨g0, oo, none⟩) P.length cap := (hdep ⟨5, .data⟩ (by simp) rfl).1 14 rfl
          have e6 : ρ (.tmp 15) = .int .i64 n := (hdep ⟨6, .data⟩ (by simp) rfl).1 15 rfl
          have yg : y 3 = some false := (hdep ⟨3, .guard⟩ (by simp) rfl).2 12 rfl
          have ocn : ∀ v, ρ (.const v) = v := fun v => hout (.const v) rfl
          have ofn : ∀ f, ρ (.func f) = .func (.func f) #[] #[] := fun f => hout (.func f) rfl
          clear hdep hout
          refine .inl ⟨?_, ?_⟩
          · show (y 3 == some false) = true
            rw [yg]; rfl
          show Gives _ _ _ (.pointer (some ⟨g0, oo + n, none⟩)) _
          refine Gives.val ?_
          go_simp
        rcases i with _ | i
        · obtain rfl := Option.some.inj ho
          have e7 : ρ (.tmp 16) = .pointer (some ⟨g0, oo + n, none⟩) := (hdep ⟨7, .data⟩ (by simp) rfl).1 16 rfl
          have yg : y 3 = some false := (hdep ⟨3, .guard⟩ (by simp) rfl).2 12 rfl
          have ocn : ∀ v, ρ (.const v) = v := fun v => hout (.const v) rfl
          have ofn : ∀ f, ρ (.func f) = .func (.func f) #[] #[] := fun f => hout (.func f) rfl
          clear hdep hout
          refine .inl ⟨?_, ?_⟩
          · show (y 3 == some false) = true
            rw [yg]; rfl
          show Gives _ _ _ (.pointer (some ⟨g0, oo + n, none⟩)) _
          refine Gives.val ?_
          go_simp
        rcases i with _ | i
        · obtain rfl := Option.some.inj ho
          have e8 : ρ (.tmp 17) = .pointer (some ⟨g0, oo + n, none⟩) := (hdep ⟨8, .data⟩ (by simp) rfl).1 17 rfl
          have yg : y 3 = some false := (hdep ⟨3, .guard⟩ (by simp) rfl).2 12 rfl
          have ocn : ∀ v, ρ (.const v) = v := fun v => hout (.const v) rfl
          have ofn : ∀ f, ρ (.func f) = .func (.func f) #[] #[] := fun f => hout (.func f) rfl
          clear hdep hout
          refine .inl ⟨?_, ?_⟩
          · show (y 3 == some false) = true
            rw [yg]; rfl
          have d0 := (hBx.cell (p := ⟨g0, oo + n, none⟩) hgX).trans HD0.out
          show Gives _ _ _ (.slice (some ⟨g2, o2, none⟩) len ck) _
          refine Gives.val ?_
          go_simp
        rcases i with _ | i
        · obtain rfl := Option.some.inj ho
          have e9 : ρ (.tmp 18) = .slice (some ⟨g2, o2, none⟩) len ck := (hdep ⟨9, .data⟩ (by simp) rfl).1 18 rfl
          have yg : y 3 = some false := (hdep ⟨3, .guard⟩ (by simp) rfl).2 12 rfl
          have ocn : ∀ v, ρ (.const v) = v := fun v => hout (.const v) rfl
          have ofn : ∀ f, ρ (.func f) = .func (.func f) #[] #[] := fun f => hout (.func f) rfl
          clear hdep hout
          refine .inl ⟨?_, ?_⟩
          · show (y 3 == some false) = true
            rw [yg]; rfl
          show Gives _ _ _ (.int .i64 len) _
          refine Gives.val ?_
          go_simp
        rcases i with _ | i
        · obtain rfl := Option.some.inj ho
          have e4 : ρ (.tmp 13) = .int .i64 m := (hdep ⟨4, .data⟩ (by simp) rfl).1 13 rfl
          have e10 : ρ (.tmp 19) = .int .i64 len := (hdep ⟨10, .data⟩ (by simp) rfl).1 19 rfl
          have yg : y 3 = some false := (hdep ⟨3, .guard⟩ (by simp) rfl).2 12 rfl
          have ocn : ∀ v, ρ (.const v) = v := fun v => hout (.const v) rfl
          have ofn : ∀ f, ρ (.func f) = .func (.func f) #[] #[] := fun f => hout (.func f) rfl
          clear hdep hout
          refine .inl ⟨?_, ?_⟩
          · show (y 3 == some false) = true
            rw [yg]; rfl
          show Gives _ _ _ (.bool false) _
          refine Gives.val ?_
          go_simp
        rcases i with _ | i
        · obtain rfl := Option.some.inj ho
          have e3 : ρ (.tmp 12) = .bool false := (hdep ⟨3, .data⟩ (by simp) rfl).1 12 rfl
          have e11 : ρ (.tmp 20) = .bool false := (hdep ⟨11, .data⟩ (by simp) rfl).1 20 rfl
          have ocn : ∀ v, ρ (.const v) = v := fun v => hout (.const v) rfl
          have ofn : ∀ f, ρ (.func f) = .func (.func f) #[] #[] := fun f => hout (.func f) rfl
          clear hdep hout
          refine .inl ⟨?_, ?_⟩
          · rfl
          show Gives _ _ _ (.bool false) _
          refine Gives.val ?_
          go_simp
        rcases i with _ | i
        · obtain rfl := Option.some.inj ho
          have e12 : ρ (.tmp 21) = .bool false := (hdep ⟨12, .data⟩ (by simp) rfl).1 21 rfl
          have ocn : ∀ v, ρ (.const v) = v := fun v => hout (.const v) rfl
          have ofn : ∀ f, ρ (.func f) = .func (.func f) #[] #[] := fun f => hout (.func f) rfl
          clear hdep hout
          refine .inl ⟨?_, ?_⟩
          · rfl
          show Gives _ _ _ (.bool false) _
          refine Gives.val ?_
          go_simp
        rcases i with _ | i
        · obtain rfl := Option.some.inj ho
          have o0 : ρ (.tmp 0) = .slice (some ⟨g0, oo, none⟩) P.length cap := hout (.tmp 0) rfl
          have yg : y 13 = some false := (hdep ⟨13, .guard⟩ (by simp) rfl).2 22 rfl
          have ocn : ∀ v, ρ (.const v) = v := fun v => hout (.const v) rfl
          have ofn : ∀ f, ρ (.func f) = .func (.func f) #[] #[] := fun f => hout (.func f) rfl
          clear hdep hout
          refine .inl ⟨?_, ?_⟩
          · show (y 13 == some false) = true
            rw [yg]; rfl
          show Gives _ _ _ (.slice (some ⟨g0, oo, none⟩) P.length cap) _
          refine Gives.val ?_
          go_simp
        rcases i with _ | i
        · obtain rfl := Option.some.inj ho
          have o1 : ρ (.tmp 1) = .int .i64 n := hout (.tmp 1) rfl
          have yg : y 13 = some false := (hdep ⟨13, .guard⟩ (by simp) rfl).2 22 rfl
          have ocn : ∀ v, ρ (.const v) = v := fun v => hout (.const v) rfl
          have ofn : ∀ f, ρ (.func f) = .func (.func f) #[] #[] := fun f => hout (.func f) rfl
          clear hdep hout
          refine .inl ⟨?_, ?_⟩
          · show (y 13 == some false) = true
            rw [yg]; rfl
          show Gives _ _ _ (.int .i64 n) _
          refine Gives.val ?_
          go_simp
        rcases i with _ | i
        · obtain rfl := Option.some.inj ho
          have e14 : ρ (.tmp 23) = .slice (some ⟨g0, oo, none⟩) P.length cap := (hdep ⟨14, .data⟩ (by simp) rfl).1 23 rfl
          have e15 : ρ (.tmp 24) = .int .i64 n := (hdep ⟨15, .data⟩ (by simp) rfl).1 24 rfl
          have yg : y 13 = some false := (hdep ⟨13, .guard⟩ (by simp) rfl).2 22 rfl
          have ocn : ∀ v, ρ (.const v) = v := fun v => hout (.const v) rfl
          have ofn : ∀ f, ρ (.func f) = .func (.func f) #[] #[] := fun f => hout (.func f) rfl
          clear hdep hout
          refine .inl ⟨?_, ?_⟩
          · show (y 13 == some false) = true
            rw [yg]; rfl
          show Gives _ _ _ (.pointer (some ⟨g0, oo + n, none⟩)) _
          refine Gives.val ?_
          go_simp
        rcases i with _ | i
        · obtain rfl := Option.some.inj ho
          have e16 : ρ (.tmp 25) = .pointer (some ⟨g0, oo + n, none⟩) := (hdep ⟨16, .data⟩ (by simp) rfl).1 25 rfl
          have yg : y 13 = some false := (hdep ⟨13, .guard⟩ (by simp) rfl).2 22 rfl
          have ocn : ∀ v, ρ (.const v) = v := fun v => hout (.const v) rfl
          have ofn : ∀ f, ρ (.func f) = .func (.func f) #[] #[] := fun f => hout (.func f) rfl
          clear hdep hout
          refine .inl ⟨?_, ?_⟩
          · show (y 13 == some false) = true
            rw [yg]; rfl
          show Gives _ _ _ (.pointer (some ⟨g0, oo + n, none⟩)) _
          refine Gives.val ?_
          go_simp
        rcases i with _ | i
        · obtain rfl := Option.some.inj ho
          have e17 : ρ (.tmp 26) = .pointer (some ⟨g0, oo + n, none⟩) := (hdep ⟨17, .data⟩ (by simp) rfl).1 26 rfl
          have yg : y 13 = some false := (hdep ⟨13, .guard⟩ (by simp) rfl).2 22 rfl
          have ocn : ∀ v, ρ (.const v) = v := fun v => hout (.const v) rfl
          have ofn : ∀ f, ρ (.func f) = .func (.func f) #[] #[] := fun f => hout (.func f) rfl
          clear hdep hout
          refine .inl ⟨?_, ?_⟩
          · show (y 13 == some false) = true
            rw [yg]; rfl
          have d0 := (hBx.cell (p := ⟨g0, oo + n, none⟩) hgX).trans HD0.out
          show Gives _ _ _ (.slice (some ⟨g2, o2, none⟩) len ck) _
          refine Gives.val ?_
          go_simp
        rcases i with _ | i
        · obtain rfl := Option.some.inj ho
          have o2 : ρ (.tmp 2) = .int .i64 m := hout (.tmp 2) rfl
          have yg : y 13 = some false := (hdep ⟨13, .guard⟩ (by simp) rfl).2 22 rfl
          have ocn : ∀ v, ρ (.const v) = v := fun v => hout (.const v) rfl
          have ofn : ∀ f, ρ (.func f) = .func (.func f) #[] #[] := fun f => hout (.func f) rfl
          clear hdep hout
          refine .inl ⟨?_, ?_⟩
          · show (y 13 == some false) = true
            rw [yg]; rfl
          show Gives _ _ _ (.int .i64 m) _
          refine Gives.val ?_
          go_simp
        rcases i with _ | i
        · obtain rfl := Option.some.inj ho
          have e18 : ρ (.tmp 27) = .slice (some ⟨g2, o2, none⟩) len ck := (hdep ⟨18, .data⟩ (by simp) rfl).1 27 rfl
          have e19 : ρ (.tmp 28) = .int .i64 m := (hdep ⟨19, .data⟩ (by simp) rfl).1 28 rfl
          have yg : y 13 = some false := (hdep ⟨13, .guard⟩ (by simp) rfl).2 22 rfl
          have ocn : ∀ v, ρ (.const v) = v := fun v => hout (.const v) rfl
          have ofn : ∀ f, ρ (.func f) = .func (.func f) #[] #[] := fun f => hout (.func f) rfl
          clear hdep hout
          refine .inl ⟨?_, ?_⟩
          · show (y 13 == some false) = true
            rw [yg]; rfl
          show Gives _ _ _ (.pointer (some ⟨g2, o2 + m * 4, none⟩)) _
          refine Gives.val ?_
          go_simp
        rcases i with _ | i
        · obtain rfl := Option.some.inj ho
          have e20 : ρ (.tmp 29) = .pointer (some ⟨g2, o2 + m * 4, none⟩) := (hdep ⟨20, .data⟩ (by simp) rfl).1 29 rfl
          have yg : y 13 = some false := (hdep ⟨13, .guard⟩ (by simp) rfl).2 22 rfl
          have ocn : ∀ v, ρ (.const v) = v := fun v => hout (.const v) rfl
          have ofn : ∀ f, ρ (.func f) = .func (.func f) #[] #[] := fun f => hout (.func f) rfl
          clear hdep hout
          refine .inl ⟨?_, ?_⟩
          · show (y 13 == some false) = true
            rw [yg]; rfl
          obtain ⟨q0, q1, q2, q3⟩ := HI0.out.later hBx hg2X
          simp only at q0 q1 q2 q3
          show Gives _ _ _ (.agg #[.int .i64 i1, .int .i64 i2, .int .i64 i3, .int .i64 i4]) _
          refine Gives.val ?_
          go_simp
        rcases i with _ | i
        · obtain rfl := Option.some.inj ho
          have o7 : ρ (.tmp 7) = .pointer (some ⟨x0.heap.size, 0, none⟩) := hout (.tmp 7) rfl
          have yg : y 13 = some false := (hdep ⟨13, .guard⟩ (by simp) rfl).2 22 rfl
          have ocn : ∀ v, ρ (.const v) = v := fun v => hout (.const v) rfl
          have ofn : ∀ f, ρ (.func f) = .func (.func f) #[] #[] := fun f => hout (.func f) rfl
          clear hdep hout
          refine .inl ⟨?_, ?_⟩
          · show (y 13 == some false) = true
            rw [yg]; rfl
          obtain ⟨_, b0, b1, b2, b3, b4, _⟩ := HB0.out.later hBx
          show Gives _ _ _ (.agg #[.bool true, .slice (some ⟨g, o, none⟩) 3 cs, .bool c, .int .i64 l, .int .i64 u]) _
          refine Gives.val ?_
          go_simp
        rcases i with _ | i
        · obtain rfl := Option.some.inj ho
          have e21 : ρ (.tmp 30) = .agg #[.int .i64 i1, .int .i64 i2, .int .i64 i3, .int .i64 i4] := (hdep ⟨21, .data⟩ (by simp) rfl).1 30 rfl
          have e22 : ρ (.tmp 31) = .agg #[.bool true, .slice (some ⟨g, o, none⟩) 3 cs, .bool c, .int .i64 l, .int .i64 u] := (hdep ⟨22, .data⟩ (by simp) rfl).1 31 rfl
          have yg : y 13 = some false := (hdep ⟨13, .guard⟩ (by simp) rfl).2 22 rfl
          have ocn : ∀ v, ρ (.const v) = v := fun v => hout (.const v) rfl
          have ofn : ∀ f, ρ (.func f) = .func (.func f) #[] #[] := fun f => hout (.func f) rfl
          clear hdep hout
          refine .inl ⟨?_, ?_⟩
          · show (y 13 == some false) = true
            rw [yg]; rfl
          show Gives _ _ _ (.bool false) _
          refine Gives.call (HW.out x hBx) ?_
          go_simp
        rcases i with _ | i
        · obtain rfl := Option.some.inj ho
          have e23 : ρ (.tmp 32) = .bool false := (hdep ⟨23, .data⟩ (by simp) rfl).1 32 rfl
          have yg : y 13 = some false := (hdep ⟨13, .guard⟩ (by simp) rfl).2 22 rfl
          have ocn : ∀ v, ρ (.const v) = v := fun v => hout (.const v) rfl
          have ofn : ∀ f, ρ (.func f) = .func (.func f) #[] #[] := fun f => hout (.func f) rfl
          clear hdep hout
          refine .inl ⟨?_, ?_⟩
          · show (y 13 == some false) = true
            rw [yg]; rfl
          show Gives _ _ _ (.bool true) _
          refine Gives.val ?_
          go_simp
        rcases i with _ | i
        · obtain rfl := Option.some.inj ho
          have e13 : ρ (.tmp 22) = .bool false := (hdep ⟨13, .data⟩ (by simp) rfl).1 22 rfl
          have e24 : ρ (.tmp 33) = .bool true := (hdep ⟨24, .data⟩ (by simp) rfl).1 33 rfl
          have ocn : ∀ v, ρ (.const v) = v := fun v => hout (.const v) rfl
          have ofn : ∀ f, ρ (.func f) = .func (.func f) #[] #[] := fun f => hout (.func f) rfl
          clear hdep hout
          refine .inl ⟨?_, ?_⟩
          · rfl
          show Gives _ _ _ (.bool true) _
          refine Gives.val ?_
          go_simp
        cases ho
      case fin =>
        intro x hBx
        have hBf := HK.out.trans (hBx.mono HK.out.size)
        go_wp2_with fail
        go_ret
        exact ⟨_, rfl, ⟨_, _, rfl⟩, by first | exact hBf | exact hBf.alloc hBf.size _⟩
    · skip
      refine wp_region_vals (by kernel_rfl) (by kernel_rfl) (by kernel_rfl) (by kernel_rfl) (fun j => [.pointer (some ⟨x0.heap.size, 0, none⟩), .bool true, .bool false, .bool false, .int .i64 m, .slice (some ⟨g0, oo, none⟩) P.length cap, .int .i64 n, .pointer (some ⟨g0, oo + n, none⟩), .pointer (some ⟨g0, oo + n, none⟩), .slice (some ⟨g2, o2, none⟩) len ck, .int .i64 len, .bool false, .bool false, .bool false, .slice (some ⟨g0, oo, none⟩) P.length cap, .int .i64 n, .pointer (some ⟨g0, oo + n, none⟩), .pointer (some ⟨g0, oo + n, none⟩), .slice (some ⟨g2, o2, none⟩) len ck, .int .i64 m, .pointer (some ⟨g2, o2 + m * 4, none⟩), .agg #[.int .i64 i1, .int .i64 i2, .int .i64 i3, .int .i64 i4], .agg #[.bool true, .slice (some ⟨g, o, none⟩) 3 cs, .bool c, .int .i64 l, .int .i64 u], .bool true, .bool false, .bool false].getD j undef) X (Below.drew (Below.refl _ _)) ?step ⟨#[.slice (some ⟨g0, oo, none⟩) P.length cap, .int .i64 n, .int .i64 m, .agg #[.bool true, .slice (some ⟨g, o, none⟩) 3 cs, .bool c, .int .i64 l, .int .i64 u], undef, undef, undef, .pointer (some ⟨x0.heap.size, 0, none⟩), .slice none 0 0, .pointer (some ⟨x0.heap.size, 0, none⟩), .bool true, .bool false, .bool false, .int .i64 m, .slice (some ⟨g0, oo, none⟩) P.length cap, .int .i64 n, .pointer (some ⟨g0, oo + n, none⟩), .pointer (some ⟨g0, oo + n, none⟩), .slice (some ⟨g2, o2, none⟩) len ck, .int .i64 len, .bool false, .bool false, .bool false, .slice (some ⟨g0, oo, none⟩) P.length cap, .int .i64 n, .pointer (some ⟨g0, oo + n, none⟩), .pointer (some ⟨g0, oo + n, none⟩), .slice (some ⟨g2, o2, none⟩) len ck, .int .i64 m, .pointer (some ⟨g2, o2 + m * 4, none⟩), .agg #[.int .i64 i1, .int .i64 i2, .int .i64 i3, .int .i64 i4], .agg #[.bool true, .slice (some ⟨g, o, none⟩) 3 cs, .bool c, .int .i64 l, .int .i64 u], .bool true, .bool false, .bool false, undef, undef, undef, undef, undef, undef, undef, undef, undef, undef, undef, undef, undef, undef], []⟩ (by kernel_rfl) ?fin
      case step =>
        intro i o ho ρ y x hBx hdep hout
        rcases i with _ | i
        · obtain rfl := Option.some.inj ho
          have o7 : ρ (.tmp 7) = .pointer (some ⟨x0.heap.size, 0, none⟩) := hout (.tmp 7) rfl
          have ocn : ∀ v, ρ (.const v) = v := fun v => hout (.const v) rfl
          have ofn : ∀ f, ρ (.func f) = .func (.func f) #[] #[] := fun f => hout (.func f) rfl
          clear hdep hout
          refine .inl ⟨?_, ?_⟩
          · rfl
          show Gives _ _ _ (.pointer (some ⟨x0.heap.size, 0, none⟩)) _
          refine Gives.val ?_
          go_simp
        rcases i with _ | i
        · obtain rfl := Option.some.inj ho
          have e0 : ρ (.tmp 9) = .pointer (some ⟨x0.heap.size, 0, none⟩) := (hdep ⟨0, .data⟩ (by simp) rfl).1 9 rfl
          have ocn : ∀ v, ρ (.const v) = v := fun v => hout (.const v) rfl
          have ofn : ∀ f, ρ (.func f) = .func (.func f) #[] #[] := fun f => hout (.func f) rfl
          clear hdep hout
          refine .inl ⟨?_, ?_⟩
          · rfl
          obtain ⟨_, b0, b1, b2, b3, b4, _⟩ := HB0.out.later hBx
          show Gives _ _ _ (.bool true) _
          refine Gives.val ?_
          go_simp
        rcases i with _ | i
        · obtain rfl := Option.some.inj ho
          have e1 : ρ (.tmp 10) = .bool true := (hdep ⟨1, .data⟩ (by simp) rfl).1 10 rfl
          have ocn : ∀ v, ρ (.const v) = v := fun v => hout (.const v) rfl
          have ofn : ∀ f, ρ (.func f) = .func (.func f) #[] #[] := fun f => hout (.func f) rfl
          clear hdep hout
          refine .inl ⟨?_, ?_⟩
          · rfl
          show Gives _ _ _ (.bool false) _
          refine Gives.val ?_
          go_simp
        rcases i with _ | i
        · obtain rfl := Option.some.inj ho
          have e2 : ρ (.tmp 11) = .bool false := (hdep ⟨2, .data⟩ (by simp) rfl).1 11 rfl
          have ocn : ∀ v, ρ (.const v) = v := fun v => hout (.const v) rfl
          have ofn : ∀ f, ρ (.func f) = .func (.func f) #[] #[] := fun f => hout (.func f) rfl
          clear hdep hout
          refine .inl ⟨?_, ?_⟩
          · rfl
          show Gives _ _ _ (.bool false) _
          refine Gives.val ?_
          go_simp
        rcases i with _ | i
        · obtain rfl := Option.some.inj ho
          have o2 : ρ (.tmp 2) = .int .i64 m := hout (.tmp 2) rfl
          have yg : y 3 = some false := (hdep ⟨3, .guard⟩ (by simp) rfl).2 12 rfl
          have ocn : ∀ v, ρ (.const v) = v := fun v => hout (.const v) rfl
          have ofn : ∀ f, ρ (.func f) = .func (.func f) #[] #[] := fun f => hout (.func f) rfl
          clear hdep hout
          refine .inl ⟨?_, ?_⟩
          · show (y 3 == some false) = true
            rw [yg]; rfl
          show Gives _ _ _ (.int .i64 m) _
          refine Gives.val ?_
          go_simp
        rcases i with _ | i
        · obtain rfl := Option.some.inj ho
          have o0 : ρ (.tmp 0) = .slice (some ⟨g0, oo, none⟩) P.length cap := hout (.tmp 0) rfl
          have yg : y 3 = some false := (hdep ⟨3, .guard⟩ (by simp) rfl).2 12 rfl
          have ocn : ∀ v, ρ (.const v) = v := fun v => hout (.const v) rfl
          have ofn : ∀ f, ρ (.func f) = .func (.func f) #[] #[] := fun f => hout (.func f) rfl
          clear hdep hout
          refine .inl ⟨?_, ?_⟩
          · show (y 3 == some false) = true
            rw [yg]; rfl
          show Gives _ _ _ (.slice (some ⟨g0, oo, none⟩) P.length cap) _
          refine Gives.val ?_
          go_simp
        rcases i with _ | i
        · obtain rfl := Option.some.inj ho
          have o1 : ρ (.tmp 1) = .int .i64 n := hout (.tmp 1) rfl
          have yg : y 3 = some false := (hdep ⟨3, .guard⟩ (by simp) rfl).2 12 rfl
          have ocn : ∀ v, ρ (.const v) = v := fun v => hout (.const v) rfl
          have ofn : ∀ f, ρ (.func f) = .func (.func f) #[] #[] := fun f => hout (.func f) rfl
          clear hdep hout
          refine .inl ⟨?_, ?_⟩
          · show (y 3 == some false) = true
            rw [yg]; rfl
          show Gives _ _ _ (.int .i64 n) _
          refine Gives.val ?_
          go_simp
        rcases i with _ | i
        · obtain rfl := Option.some.inj ho
          have e5 : ρ (.tmp 14) = .slice (some ⟨g0, oo, none⟩) P.length cap := (hdep ⟨5, .data⟩ (by simp) rfl).1 14 rfl
          have e6 : ρ (.tmp 15) = .int .i64 n := (hdep ⟨6, .data⟩ (by simp) rfl).1 15 rfl
          have yg : y 3 = some false := (hdep ⟨3, .guard⟩ (by simp) rfl).2 12 rfl
          have ocn : ∀ v, ρ (.const v) = v := fun v => hout (.const v) rfl
          have ofn : ∀ f, ρ (.func f) = .func (.func f) #[] #[] := fun f => hout (.func f) rfl
          clear hdep hout
          refine .inl ⟨?_, ?_⟩
          · show (y 3 == some false) = true
            rw [yg]; rfl
          show Gives _ _ _ (.pointer (some ⟨g0, oo + n, none⟩)) _
          refine Gives.val ?_
          go_simp
        rcases i with _ | i
        · obtain rfl := Option.some.inj ho
          have e7 : ρ (.tmp 16) = .pointer (some ⟨g0, oo + n, none⟩) := (hdep ⟨7, .data⟩ (by simp) rfl).1 16 rfl
          have yg : y 3 = some false := (hdep ⟨3, .guard⟩ (by simp) rfl).2 12 rfl
          have ocn : ∀ v, ρ (.const v) = v := fun v => hout (.const v) rfl
          have ofn : ∀ f, ρ (.func f) = .func (.func f) #[] #[] := fun f => hout (.func f) rfl
          clear hdep hout
          refine .inl ⟨?_, ?_⟩
          · show (y 3 == some false) = true
            rw [yg]; rfl
          show Gives _ _ _ (.pointer (some ⟨g0, oo + n, none⟩)) _
          refine Gives.val ?_
          go_simp
        rcases i with _ | i
        · obtain rfl := Option.some.inj ho
          have e8 : ρ (.tmp 17) = .pointer (some ⟨g0, oo + n, none⟩) := (hdep ⟨8, .data⟩ (by simp) rfl).1 17 rfl
          have yg : y 3 = some false := (hdep ⟨3, .guard⟩ (by simp) rfl).2 12 rfl
          have ocn : ∀ v, ρ (.const v) = v := fun v => hout (.const v) rfl
          have ofn : ∀ f, ρ (.func f) = .func (.func f) #[] #[] := fun f => hout (.func f) rfl
          clear hdep hout
          refine .inl ⟨?_, ?_⟩
          · show (y 3 == some false) = true
            rw [yg]; rfl
          have d0 := (hBx.cell (p := ⟨g0, oo + n, none⟩) hgX).trans HD0.out
          show Gives _ _ _ (.slice (some ⟨g2, o2, none⟩) len ck) _
          refine Gives.val ?_
          go_simp
        rcases i with _ | i
        · obtain rfl := Option.some.inj ho
          have e9 : ρ (.tmp 18) = .slice (some ⟨g2, o2, none⟩) len ck := (hdep ⟨9, .data⟩ (by simp) rfl).1 18 rfl
          have yg : y 3 = some false := (hdep ⟨3, .guard⟩ (by simp) rfl).2 12 rfl
          have ocn : ∀ v, ρ (.const v) = v := fun v => hout (.const v) rfl
          have ofn : ∀ f, ρ (.func f) = .func (.func f) #[] #[] := fun f => hout (.func f) rfl
          clear hdep hout
          refine .inl ⟨?_, ?_⟩
          · show (y 3 == some false) = true
            rw [yg]; rfl
          show Gives _ _ _ (.int .i64 len) _
          refine Gives.val ?_
          go_simp
        rcases i with _ | i
        · obtain rfl := Option.some.inj ho
          have e4 : ρ (.tmp 13) = .int .i64 m := (hdep ⟨4, .data⟩ (by simp) rfl).1 13 rfl
          have e10 : ρ (.tmp 19) = .int .i64 len := (hdep ⟨10, .data⟩ (by simp) rfl).1 19 rfl
          have yg : y 3 = some false := (hdep ⟨3, .guard⟩ (by simp) rfl).2 12 rfl
          have ocn : ∀ v, ρ (.const v) = v := fun v => hout (.const v) rfl
          have ofn : ∀ f, ρ (.func f) = .func (.func f) #[] #[] := fun f => hout (.func f) rfl
          clear hdep hout
          refine .inl ⟨?_, ?_⟩
          · show (y 3 == some false) = true
            rw [yg]; rfl
          show Gives _ _ _ (.bool false) _
          refine Gives.val ?_
          go_simp
        rcases i with _ | i
        · obtain rfl := Option.some.inj ho
          have e3 : ρ (.tmp 12) = .bool false := (hdep ⟨3, .data⟩ (by simp) rfl).1 12 rfl
          have e11 : ρ (.tmp 20) = .bool false := (hdep ⟨11, .data⟩ (by simp) rfl).1 20 rfl
          have ocn : ∀ v, ρ (.const v) = v := fun v => hout (.const v) rfl
          have ofn : ∀ f, ρ (.func f) = .func (.func f) #[] #[] := fun f => hout (.func f) rfl
          clear hdep hout
          refine .inl ⟨?_, ?_⟩
          · rfl
          show Gives _ _ _ (.bool false) _
          refine Gives.val ?_
          go_simp
        rcases i with _ | i
        · obtain rfl := Option.some.inj ho
          have e12 : ρ (.tmp 21) = .bool false := (hdep ⟨12, .data⟩ (by simp) rfl).1 21 rfl
          have ocn : ∀ v, ρ (.const v) = v := fun v => hout (.const v) rfl
          have ofn : ∀ f, ρ (.func f) = .func (.func f) #[] #[] := fun f => hout (.func f) rfl
          clear hdep hout
          refine .inl ⟨?_, ?_⟩
          · rfl
          show Gives _ _ _ (.bool false) _
          refine Gives.val ?_
          go_simp
        rcases i with _ | i
        · obtain rfl := Option.some.inj ho
          have o0 : ρ (.tmp 0) = .slice (some ⟨g0, oo, none⟩) P.length cap := hout (.tmp 0) rfl
          have yg : y 13 = some false := (hdep ⟨13, .guard⟩ (by simp) rfl).2 22 rfl
          have ocn : ∀ v, ρ (.const v) = v := fun v => hout (.const v) rfl
          have ofn : ∀ f, ρ (.func f) = .func (.func f) #[] #[] := fun f => hout (.func f) rfl
          clear hdep hout
          refine .inl ⟨?_, ?_⟩
          · show (y 13 == some false) = true
            rw [yg]; rfl
          show Gives _ _ _ (.slice (some ⟨g0, oo, none⟩) P.length cap) _
          refine Gives.val ?_
          go_simp
        rcases i with _ | i
        · obtain rfl := Option.some.inj ho
          have o1 : ρ (.tmp 1) = .int .i64 n := hout (.tmp 1) rfl
          have yg : y 13 = some false := (hdep ⟨13, .guard⟩ (by simp) rfl).2 22 rfl
          have ocn : ∀ v, ρ (.const v) = v := fun v => hout (.const v) rfl
          have ofn : ∀ f, ρ (.func f) = .func (.func f) #[] #[] := fun f => hout (.func f) rfl
          clear hdep hout
          refine .inl ⟨?_, ?_⟩
          · show (y 13 == some false) = true
            rw [yg]; rfl
          show Gives _ _ _ (.int .i64 n) _
          refine Gives.val ?_
          go_simp
        rcases i with _ | i
        · obtain rfl := Option.some.inj ho
          have e14 : ρ (.tmp 23) = .slice (some ⟨g0, oo, none⟩) P.length cap := (hdep ⟨14, .data⟩ (by simp) rfl).1 23 rfl
          have e15 : ρ (.tmp 24) = .int .i64 n := (hdep ⟨15, .data⟩ (by simp) rfl).1 24 rfl
          have yg : y 13 = some false := (hdep ⟨13, .guard⟩ (by simp) rfl).2 22 rfl
          have ocn : ∀ v, ρ (.const v) = v := fun v => hout (.const v) rfl
          have ofn : ∀ f, ρ (.func f) = .func (.func f) #[] #[] := fun f => hout (.func f) rfl
          clear hdep hout
          refine .inl ⟨?_, ?_⟩
          · show (y 13 == some false) = true
            rw [yg]; rfl
          show Gives _ _ _ (.pointer (some ⟨g0, oo + n, none⟩)) _
          refine Gives.val ?_
          go_simp
        rcases i with _ | i
        · obtain rfl := Option.some.inj ho
          have e16 : ρ (.tmp 25) = .pointer (some ⟨g0, oo + n, none⟩) := (hdep ⟨16, .data⟩ (by simp) rfl).1 25 rfl
          have yg : y 13 = some false := (hdep ⟨13, .guard⟩ (by simp) rfl).2 22 rfl
          have ocn : ∀ v, ρ (.const v) = v := fun v => hout (.const v) rfl
          have ofn : ∀ f, ρ (.func f) = .func (.func f) #[] #[] := fun f => hout (.func f) rfl
          clear hdep hout
          refine .inl ⟨?_, ?_⟩
          · show (y 13 == some false) = true
            rw [yg]; rfl
          show Gives _ _ _ (.pointer (some ⟨g0, oo + n, none⟩)) _
          refine Gives.val ?_
          go_simp
        rcases i with _ | i
        · obtain rfl := Option.some.inj ho
          have e17 : ρ (.tmp 26) = .pointer (some ⟨g0, oo + n, none⟩) := (hdep ⟨17, .data⟩ (by simp) rfl).1 26 rfl
          have yg : y 13 = some false := (hdep ⟨13, .guard⟩ (by simp) rfl).2 22 rfl
          have ocn : ∀ v, ρ (.const v) = v := fun v => hout (.const v) rfl
          have ofn : ∀ f, ρ (.func f) = .func (.func f) #[] #[] := fun f => hout (.func f) rfl
          clear hdep hout
          refine .inl ⟨?_, ?_⟩
          · show (y 13 == some false) = true
            rw [yg]; rfl
          have d0 := (hBx.cell (p := ⟨g0, oo + n, none⟩) hgX).trans HD0.out
          show Gives _ _ _ (.slice (some ⟨g2, o2, none⟩) len ck) _
          refine Gives.val ?_
          go_simp
        rcases i with _ | i
        · obtain rfl := Option.some.inj ho
          have o2 : ρ (.tmp 2) = .int .i64 m := hout (.tmp 2) rfl
          have yg : y 13 = some false := (hdep ⟨13, .guard⟩ (by simp) rfl).2 22 rfl
          have ocn : ∀ v, ρ (.const v) = v := fun v => hout (.const v) rfl
          have ofn : ∀ f, ρ (.func f) = .func (.func f) #[] #[] := fun f => hout (.func f) rfl
          clear hdep hout
          refine .inl ⟨?_, ?_⟩
          · show (y 13 == some false) = true
            rw [yg]; rfl
          show Gives _ _ _ (.int .i64 m) _
          refine Gives.val ?_
          go_simp
        rcases i with _ | i
        · obtain rfl := Option.some.inj ho
          have e18 : ρ (.tmp 27) = .slice (some ⟨g2, o2, none⟩) len ck := (hdep ⟨18, .data⟩ (by simp) rfl).1 27 rfl
          have e19 : ρ (.tmp 28) = .int .i64 m := (hdep ⟨19, .data⟩ (by simp) rfl).1 28 rfl
          have yg : y 13 = some false := (hdep ⟨13, .guard⟩ (by simp) rfl).2 22 rfl
          have ocn : ∀ v, ρ (.const v) = v := fun v => hout (.const v) rfl
          have ofn : ∀ f, ρ (.func f) = .func (.func f) #[] #[] := fun f => hout (.func f) rfl
          clear hdep hout
          refine .inl ⟨?_, ?_⟩
          · show (y 13 == some false) = true
            rw [yg]; rfl
          show Gives _ _ _ (.pointer (some ⟨g2, o2 + m * 4, none⟩)) _
          refine Gives.val ?_
          go_simp
        rcases i with _ | i
        · obtain rfl := Option.some.inj ho
          have e20 : ρ (.tmp 29) = .pointer (some ⟨g2, o2 + m * 4, none⟩) := (hdep ⟨20, .data⟩ (by simp) rfl).1 29 rfl
          have yg : y 13 = some false := (hdep ⟨13, .guard⟩ (by simp) rfl).2 22 rfl
          have ocn : ∀ v, ρ (.const v) = v := fun v => hout (.const v) rfl
          have ofn : ∀ f, ρ (.func f) = .func (.func f) #[] #[] := fun f => hout (.func f) rfl
          clear hdep hout
          refine .inl ⟨?_, ?_⟩
          · show (y 13 == some false) = true
            rw [yg]; rfl
          obtain ⟨q0, q1, q2, q3⟩ := HI0.out.later hBx hg2X
          simp only at q0 q1 q2 q3
          show Gives _ _ _ (.agg #[.int .i64 i1, .int .i64 i2, .int .i64 i3, .int .i64 i4]) _
          refine Gives.val ?_
          go_simp
        rcases i with _ | i
        · obtain rfl := Option.some.inj ho
          have o7 : ρ (.tmp 7) = .pointer (some ⟨x0.heap.size, 0, none⟩) := hout (.tmp 7) rfl
          have yg : y 13 = some false := (hdep ⟨13, .guard⟩ (by simp) rfl).2 22 rfl
          have ocn : ∀ v, ρ (.const v) = v := fun v => hout (.const v) rfl
          have ofn : ∀ f, ρ (.func f) = .func (.func f) #[] #[] := fun f => hout (.func f) rfl
          clear hdep hout
          refine .inl ⟨?_, ?_⟩
          · show (y 13 == some false) = true
            rw [yg]; rfl
          obtain ⟨_, b0, b1, b2, b3, b4, _⟩ := HB0.out.later hBx
          show Gives _ _ _ (.agg #[.bool true, .slice (some ⟨g, o, none⟩) 3 cs, .bool c, .int .i64 l, .int .i64 u]) _
          refine Gives.val ?_
          go_simp
        rcases i with _ | i
        · obtain rfl := Option.some.inj ho
          have e21 : ρ (.tmp 30) = .agg #[.int .i64 i1, .int .i64 i2, .int .i64 i3, .int .i64 i4] := (hdep ⟨21, .data⟩ (by simp) rfl).1 30 rfl
          have e22 : ρ (.tmp 31) = .agg #[.bool true, .slice (some ⟨g, o, none⟩) 3 cs, .bool c, .int .i64 l, .int .i64 u] := (hdep ⟨22, .data⟩ (by simp) rfl).1 31 rfl
          have yg : y 13 = some false := (hdep ⟨13, .guard⟩ (by simp) rfl).2 22 rfl
          have ocn : ∀ v, ρ (.const v) = v := fun v => hout (.const v) rfl
          have ofn : ∀ f, ρ (.func f) = .func (.func f) #[] #[] := fun f => hout (.func f) rfl
          clear hdep hout
          refine .inl ⟨?_, ?_⟩
          · show (y 13 == some false) = true
            rw [yg]; rfl
          show Gives _ _ _ (.bool true) _
          refine Gives.call (HW.out x hBx) ?_
          go_simp
        rcases i with _ | i
        · obtain rfl := Option.some.inj ho
          have e23 : ρ (.tmp 32) = .bool true := (hdep ⟨23, .data⟩ (by simp) rfl).1 32 rfl
          have yg : y 13 = some false := (hdep ⟨13, .guard⟩ (by simp) rfl).2 22 rfl
          have ocn : ∀ v, ρ (.const v) = v := fun v => hout (.const v) rfl
          have ofn : ∀ f, ρ (.func f) = .func (.func f) #[] #[] := fun f => hout (.func f) rfl
          clear hdep hout
          refine .inl ⟨?_, ?_⟩
          · show (y 13 == some false) = true
            rw [yg]; rfl
          show Gives _ _ _ (.bool false) _
          refine Gives.val ?_
          go_simp
        rcases i with _ | i
        · obtain rfl := Option.some.inj ho
          have e13 : ρ (.tmp 22) = .bool false := (hdep ⟨13, .data⟩ (by simp) rfl).1 22 rfl
          have e24 : ρ (.tmp 33) = .bool false := (hdep ⟨24, .data⟩ (by simp) rfl).1 33 rfl
          have ocn : ∀ v, ρ (.const v) = v := fun v => hout (.const v) rfl
          have ofn : ∀ f, ρ (.func f) = .func (.func f) #[] #[] := fun f => hout (.func f) rfl
          clear hdep hout
          refine .inl ⟨?_, ?_⟩
          · rfl
          show Gives _ _ _ (.bool false) _
          refine Gives.val ?_
          go_simp
        cases ho
      case fin =>
        intro x hBx
        have hBf := HK.out.trans (hBx.mono HK.out.size)
        have d0 := (hBx.cell (p := ⟨g0, oo + n, none⟩) hgX).trans HD0.out
        obtain ⟨q0, q1, q2, q3⟩ := HI0.out.later hBx hg2X
        simp only at q0 q1 q2 q3
        have hgx : g0 < x.heap.size := Nat.lt_of_lt_of_le hgX hBx.size
        have hgx2 : g2 < x.heap.size := Nat.lt_of_lt_of_le hg2X hBx.size
        go_wp2_with fail
        refine (HFT.out _).mono ?_
        rintro e y2 ⟨rfl, hb2⟩
        have hB2 := hBf.trans (hb2.mono hBf.size)
        clear d0 q0 q1 q2 q3
        go_wp2_with fail
        go_ret
        refine ⟨_, rfl, ?_, hB2.alloc hB2.size _⟩
        exact ⟨y2.heap.size, _, rfl, hB2.size, by simp, Nat.le_refl _, by simp [go_sem], by simp [go_sem], by simp [go_sem], by simp [go_sem], by simp [go_sem], by simp [go_sem]⟩

set_option maxRecDepth 100000 in
set_option maxHeartbeats 4000000 in
theorem flowSites_spec (x0 : World) (B : Nat) (v : Value) (P : List (List I4)) (h : ProgAt x0 B v P) (k at_ : Int) (z : Bool) (C E : Nat) (a : Bool) (s : Value) (L : List Sp) (c : Bool) (l u : Int) (hs : SpsAt z x0 C E s L) :
    Calls Try.prog 18 #[v, .int .i64 k, .int .i64 at_, .agg #[.bool a, s, .bool c, .int .i64 l, .int .i64 u]] x0 fun e y => ∃ r, e = .returned r ∧ SitesAt y x0.heap.size y.heap.size r (sitesF P k at_ a L (c, l, u)) ∧ Below x0.heap.size x0 y := by
  obtain ⟨p, cap, rfl, hm⟩ := h.shape
  obtain ⟨ps, cs, rfl⟩ := hs.shape
  have H : Hid (ProgAt x0 B (.slice p P.length cap) P) := h
  have HS : Hid (SpsAt z x0 C E (.slice ps L.length cs) L) := hs
  clear h hm hs
  go_enter Try.func18, Try.ntmps18
  go_wp2_with fail
  generalize hX : x0.alloc (.cells #[.bool a, .slice ps L.length cs, .bool c, .int .i64 l, .int .i64 u] 36) = X
  have HXB : Hid (Below x0.heap.size x0 X) := by show Below x0.heap.size x0 X; rw [← hX]; exact (Below.refl _ _).alloc (Nat.le_refl _) _
  have HB : Hid (Bx5 X x0.heap.size (.bool a) (.slice ps L.length cs) (.bool c) (.int .i64 l) (.int .i64 u)) := by show Bx5 _ _ _ _ _ _ _; rw [← hX]; exact Bx5.new _ _ _ _ _ _ _
  clear hX
  refine (l12At_any X B _ P (H.out.later HXB.out) k at_ z C E a _ L c l u (HS.out.later HXB.out)).mono ?_
  rintro e y ⟨rfl, hb⟩
  have HY : Hid (Below x0.heap.size x0 y) := HXB.out.trans (hb.mono HXB.out.size)
  have HBY : Hid (Bx5 y x0.heap.size (.bool a) (.slice ps L.length cs) (.bool c) (.int .i64 l) (.int .i64 u)) := HB.out.later hb
  clear hb HXB HB
  cases hw : (hasPF P k && placeF P k at_ && stOk a L (c, l, u))
  · have hc : comesF P k at_ a L (c, l, u) = false := by simp only [comesF, hw, Bool.false_and]
    go_wp2_with fail
    go_ret
    exact ⟨_, rfl, by simp only [sitesF, hc]; exact ⟨_, _, rfl⟩, by first | exact HY.out | exact HY.out.alloc HY.out.size _⟩
  · obtain ⟨_, b0, b1, b2, b3, b4, _⟩ := HBY.out
    cases a
    · have hc : comesF P k at_ false L (c, l, u) = false := by simp only [comesF, Bool.and_false]
      go_wp2_with fail
      refine (l12Sites_none y _ _ _ _ c l u).mono ?_
      rintro e y2 ⟨r, rfl, hr, hb2⟩
      go_wp2_with fail
      go_ret
      exact ⟨_, rfl, by simp only [sitesF, hc]; exact hr, HY.out.trans (hb2.mono HY.out.size)⟩
    · have hc : comesF P k at_ true L (c, l, u) = true := by simp only [comesF, hw, Bool.and_true]
      obtain ⟨n, m, rfl, rfl, hn, hm, hok, _, _, hL⟩ := comesF_at hc
      have hout : Hid (sitesF P n m true L (c, l, u) = siteF (P.getD n []) n m L) := by
        show sitesF P n m true L (c, l, u) = _
        unfold sitesF
        rw [if_pos hc]
        rfl
      have HG := l12Sites_any y B _ P (H.out.later HY.out) n m hn hm hok z C E _ L c l u (HS.out.later HY.out) hL
      have HGG : Hid (Calls Try.prog 53 #[.slice p P.length cap, .int .i64 n, .int .i64 m, .agg #[.bool true, .slice ps L.length cs, .bool c, .int .i64 l, .int .i64 u]] y fun e y2 => ∃ r, e = .returned r ∧ SitesAt y2 y.heap.size y2.heap.size r (siteF (P.getD n []) n m L) ∧ Below y.heap.size y y2) := HG
      clear hc hw hn hm hok hL HG
      generalize siteF (P.getD n []) n m L = S at hout HGG
      go_wp2_with fail
      refine HGG.out.mono ?_
      rintro e y2 ⟨r, rfl, hr, hb2⟩
      have hr2 := hr.wide HY.out.size (Nat.le_refl _) (Nat.le_refl _)
      go_wp2_with fail
      go_ret
      exact ⟨_, rfl, by rw [hout.out]; exact hr2, HY.out.trans (hb2.mono HY.out.size)⟩

end Go.Proofs.Ytpogahhfdneagaa
