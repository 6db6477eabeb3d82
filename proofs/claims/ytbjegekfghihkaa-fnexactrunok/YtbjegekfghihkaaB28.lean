import Derived.Test.YtbjegekfghihkaaB26
import Derived.Test.YtbjegekfghihkaaB27
import Derived.Test.YtbjegekfghihkaaB24
/-
  Whether a run is ok by its end: the contract of the program's endOk.
-/
namespace Go.Proofs.Ytbjegekfghihkaa
open Go.RowKit
set_option linter.unusedVariables false
set_option linter.unusedSimpArgs false

set_option maxRecDepth 100000 in
set_option maxHeartbeats 8000000 in
theorem endOk_S0G0 (x0 : World) (B : Nat) (v : Value) (P : List (List I4)) (h : ProgAt x0 B v P) (hok : progOkF P = true) (s : Value) (F : List Fr) (hF : FrsAt x0 s F) (hl5 : F.length ≤ 5) (n1 n2 n3 n4 n5 n6 : Int) (hs : ¬ n4 = 0) (hg : F.length = 0) :
    Calls Try.prog 55 #[v, aggRun s (n1, n2, n3, n4, n5, n6)] x0 fun e y => e = .returned (.bool (endF P F n2 n3 (n4, n5, n6))) ∧ Below x0.heap.size x0 y := by
  obtain ⟨p, cap, rfl, _⟩ := h.shape
  obtain ⟨ps, cs, rfl, _⟩ := hF.shape
  unfold aggRun
  dsimp only
  have H : Hid (ProgAt x0 B (.slice p P.length cap) P) := h
  have HOK : Hid (progOkF P = true) := hok
  have HS : Hid (FrsAt x0 (.slice ps F.length cs) F) := hF
  have hl := progOkF_len hok
  have hn4 : (P.length : Int) ≤ 4 := by omega
  have hf5 : (F.length : Int) ≤ 5 := by omega
  clear h hok hF hl
  have hsb : (n4 == 0) = false := by simpa using hs
  generalize hfn : F.length = fn at *
  generalize hpn : P.length = pn at *
  have HFN : Hid (F.length = fn ∧ P.length = pn) := ⟨hfn, hpn⟩
  clear hfn hpn
  subst hg
  by_cases e2 : n2 = 2
  · subst e2
    have HAl : Hid (Below x0.heap.size x0 (x0.alloc (.cells #[.slice ps 0 cs, .int .i64 n1, .int .i64 2, .int .i64 n3, .int .i64 n4, .int .i64 n5, .int .i64 n6] 56))) := (Below.refl _ _).alloc (Nat.le_refl _) _
    have K00 : Hid (BxN (x0.alloc (.cells #[.slice ps 0 cs, .int .i64 n1, .int .i64 2, .int .i64 n3, .int .i64 n4, .int .i64 n5, .int .i64 n6] 56)) x0.heap.size [.slice ps 0 cs, .int .i64 n1, .int .i64 2, .int .i64 n3, .int .i64 n4, .int .i64 n5, .int .i64 n6]) := BxN.new x0 [_, _, _, _, _, _, _] _
    go_enter Try.func55, Try.ntmps55
    go_wp2_with fail
    generalize x0.alloc (.cells #[.slice ps 0 cs, .int .i64 n1, .int .i64 2, .int .i64 n3, .int .i64 n4, .int .i64 n5, .int .i64 n6] 56) = X at HAl K00 ⊢
    refine wp_region_vals (by kernel_rfl) (by kernel_rfl) (by kernel_rfl) (by kernel_rfl) (fun j => [.bool false, .bool false, undef, undef, undef, undef, .bool false, .bool false, undef, undef, undef, undef, .bool false, .bool false].getD j undef) X (Below.drew (Below.refl _ _)) ?step ⟨#[.slice p pn cap, .agg #[.slice ps 0 cs, .int .i64 n1, .int .i64 2, .int .i64 n3, .int .i64 n4, .int .i64 n5, .int .i64 n6], undef, .pointer (some ⟨x0.heap.size, 0, none⟩), .bool false, .bool false, .bool false, .pointer (some ⟨x0.heap.size, 0, none⟩), .slice ps 0 cs, .int .i64 0, .bool false, .bool false, undef, undef, undef, .bool false, .pointer (some ⟨x0.heap.size, 4, none⟩), .agg #[.int .i64 n4, .int .i64 n5, .int .i64 n6], .agg #[.int .i64 0, .int .i64 0, .int .i64 0], .bool false, .pointer (some ⟨x0.heap.size, 2, none⟩), .int .i64 2, .bool false, .bool false, undef, undef, undef, undef, .bool false, .bool false, undef, undef, undef, undef, undef, undef, undef, undef, undef, undef, undef, undef, .bool true, .bool true, .bool false, .bool false, undef, undef, undef, undef, .bool false, .bool false, undef, undef, undef, undef, .bool false, undef, undef, undef, undef, undef, undef, undef, undef, undef, undef, undef, undef], []⟩ (by kernel_rfl) ?fin
    case step =>
      intro i o ho ρ y x hBx hdep hout
      rcases i with _ | i
      · obtain rfl := Option.some.inj ho
        have o5 : ρ (.tmp 5) = .bool false := hout (.tmp 5) rfl
        have ocn : ∀ v, ρ (.const v) = v := fun v => hout (.const v) rfl
        have ofn : ∀ f, ρ (.func f) = .func (.func f) #[] #[] := fun f => hout (.func f) rfl
        clear hdep hout
        refine .inl ⟨?_, ?_⟩
        · rfl
        show Gives _ _ _ (.bool false) _
        refine Gives.val ?_
        go_simp
      rcases i with _ | i
      · obtain rfl := Option.some.inj ho
        have e0 : ρ (.tmp 44) = .bool false := (hdep ⟨0, .data⟩ (by simp) rfl).1 44 rfl
        have ocn : ∀ v, ρ (.const v) = v := fun v => hout (.const v) rfl
        have ofn : ∀ f, ρ (.func f) = .func (.func f) #[] #[] := fun f => hout (.func f) rfl
        clear hdep hout
        refine .inl ⟨?_, ?_⟩
        · rfl
        show Gives _ _ _ (.bool false) _
        refine Gives.val ?_
        go_simp
      rcases i with _ | i
      · obtain rfl := Option.some.inj ho
        have o0 : ρ (.tmp 0) = .slice p pn cap := hout (.tmp 0) rfl
        have yg : y 1 = some false := (hdep ⟨1, .guard⟩ (by simp) rfl).2 45 rfl
        have ocn : ∀ v, ρ (.const v) = v := fun v => hout (.const v) rfl
        have ofn : ∀ f, ρ (.func f) = .func (.func f) #[] #[] := fun f => hout (.func f) rfl
        clear hdep hout
        refine .inr ⟨?_, rfl⟩
        show (y 1 == some true) = false
        rw [yg]; rfl
      rcases i with _ | i
      · obtain rfl := Option.some.inj ho
        have o3 : ρ (.tmp 3) = .pointer (some ⟨x0.heap.size, 0, none⟩) := hout (.tmp 3) rfl
        have yg : y 1 = some false := (hdep ⟨1, .guard⟩ (by simp) rfl).2 45 rfl
        have ocn : ∀ v, ρ (.const v) = v := fun v => hout (.const v) rfl
        have ofn : ∀ f, ρ (.func f) = .func (.func f) #[] #[] := fun f => hout (.func f) rfl
        clear hdep hout
        refine .inr ⟨?_, rfl⟩
        show (y 1 == some true) = false
        rw [yg]; rfl
      rcases i with _ | i
      · obtain rfl := Option.some.inj ho
        have e3 : ρ (.tmp 47) = undef := (hdep ⟨3, .data⟩ (by simp) rfl).1 47 rfl
        have yg : y 1 = some false := (hdep ⟨1, .guard⟩ (by simp) rfl).2 45 rfl
        have ocn : ∀ v, ρ (.const v) = v := fun v => hout (.const v) rfl
        have ofn : ∀ f, ρ (.func f) = .func (.func f) #[] #[] := fun f => hout (.func f) rfl
        clear hdep hout
        refine .inr ⟨?_, rfl⟩
        show (y 1 == some true) = false
        rw [yg]; rfl
      rcases i with _ | i
      · obtain rfl := Option.some.inj ho
        have e2 : ρ (.tmp 46) = undef := (hdep ⟨2, .data⟩ (by simp) rfl).1 46 rfl
        have e4 : ρ (.tmp 48) = undef := (hdep ⟨4, .data⟩ (by simp) rfl).1 48 rfl
        have yg : y 1 = some false := (hdep ⟨1, .guard⟩ (by simp) rfl).2 45 rfl
        have ocn : ∀ v, ρ (.const v) = v := fun v => hout (.const v) rfl
        have ofn : ∀ f, ρ (.func f) = .func (.func f) #[] #[] := fun f => hout (.func f) rfl
        clear hdep hout
        refine .inr ⟨?_, rfl⟩
        show (y 1 == some true) = false
        rw [yg]; rfl
      rcases i with _ | i
      · obtain rfl := Option.some.inj ho
        have e1 : ρ (.tmp 45) = .bool false := (hdep ⟨1, .data⟩ (by simp) rfl).1 45 rfl
        have e5 : ρ (.tmp 49) = undef := (hdep ⟨5, .data⟩ (by simp) rfl).1 49 rfl
        have ocn : ∀ v, ρ (.const v) = v := fun v => hout (.const v) rfl
        have ofn : ∀ f, ρ (.func f) = .func (.func f) #[] #[] := fun f => hout (.func f) rfl
        clear hdep hout
        refine .inl ⟨?_, ?_⟩
        · rfl
        show Gives _ _ _ (.bool false) _
        refine Gives.val ?_
        go_simp
      rcases i with _ | i
      · obtain rfl := Option.some.inj ho
        have e6 : ρ (.tmp 50) = .bool false := (hdep ⟨6, .data⟩ (by simp) rfl).1 50 rfl
        have ocn : ∀ v, ρ (.const v) = v := fun v => hout (.const v) rfl
        have ofn : ∀ f, ρ (.func f) = .func (.func f) #[] #[] := fun f => hout (.func f) rfl
        clear hdep hout
        refine .inl ⟨?_, ?_⟩
        · rfl
        show Gives _ _ _ (.bool false) _
        refine Gives.val ?_
        go_simp
      rcases i with _ | i
      · obtain rfl := Option.some.inj ho
        have o3 : ρ (.tmp 3) = .pointer (some ⟨x0.heap.size, 0, none⟩) := hout (.tmp 3) rfl
        have yg : y 7 = some false := (hdep ⟨7, .guard⟩ (by simp) rfl).2 51 rfl
        have ocn : ∀ v, ρ (.const v) = v := fun v => hout (.const v) rfl
        have ofn : ∀ f, ρ (.func f) = .func (.func f) #[] #[] := fun f => hout (.func f) rfl
        clear hdep hout
        refine .inr ⟨?_, rfl⟩
        show (y 7 == some true) = false
        rw [yg]; rfl
      rcases i with _ | i
      · obtain rfl := Option.some.inj ho
        have e8 : ρ (.tmp 52) = undef := (hdep ⟨8, .data⟩ (by simp) rfl).1 52 rfl
        have yg : y 7 = some false := (hdep ⟨7, .guard⟩ (by simp) rfl).2 51 rfl
        have ocn : ∀ v, ρ (.const v) = v := fun v => hout (.const v) rfl
        have ofn : ∀ f, ρ (.func f) = .func (.func f) #[] #[] := fun f => hout (.func f) rfl
        clear hdep hout
        refine .inr ⟨?_, rfl⟩
        show (y 7 == some true) = false
        rw [yg]; rfl
      rcases i with _ | i
      · obtain rfl := Option.some.inj ho
        have o3 : ρ (.tmp 3) = .pointer (some ⟨x0.heap.size, 0, none⟩) := hout (.tmp 3) rfl
        have yg : y 7 = some false := (hdep ⟨7, .guard⟩ (by simp) rfl).2 51 rfl
        have ocn : ∀ v, ρ (.const v) = v := fun v => hout (.const v) rfl
        have ofn : ∀ f, ρ (.func f) = .func (.func f) #[] #[] := fun f => hout (.func f) rfl
        clear hdep hout
        refine .inr ⟨?_, rfl⟩
        show (y 7 == some true) = false
        rw [yg]; rfl
      rcases i with _ | i
      · obtain rfl := Option.some.inj ho
        have e9 : ρ (.tmp 53) = undef := (hdep ⟨9, .data⟩ (by simp) rfl).1 53 rfl
        have e10 : ρ (.tmp 54) = undef := (hdep ⟨10, .data⟩ (by simp) rfl).1 54 rfl
        have yg : y 7 = some false := (hdep ⟨7, .guard⟩ (by simp) rfl).2 51 rfl
        have ocn : ∀ v, ρ (.const v) = v := fun v => hout (.const v) rfl
        have ofn : ∀ f, ρ (.func f) = .func (.func f) #[] #[] := fun f => hout (.func f) rfl
        clear hdep hout
        refine .inr ⟨?_, rfl⟩
        show (y 7 == some true) = false
        rw [yg]; rfl
      rcases i with _ | i
      · obtain rfl := Option.some.inj ho
        have e7 : ρ (.tmp 51) = .bool false := (hdep ⟨7, .data⟩ (by simp) rfl).1 51 rfl
        have e11 : ρ (.tmp 55) = undef := (hdep ⟨11, .data⟩ (by simp) rfl).1 55 rfl
        have ocn : ∀ v, ρ (.const v) = v := fun v => hout (.const v) rfl
        have ofn : ∀ f, ρ (.func f) = .func (.func f) #[] #[] := fun f => hout (.func f) rfl
        clear hdep hout
        refine .inl ⟨?_, ?_⟩
        · rfl
        show Gives _ _ _ (.bool false) _
        refine Gives.val ?_
        go_simp
      rcases i with _ | i
      · obtain rfl := Option.some.inj ho
        have e12 : ρ (.tmp 56) = .bool false := (hdep ⟨12, .data⟩ (by simp) rfl).1 56 rfl
        have ocn : ∀ v, ρ (.const v) = v := fun v => hout (.const v) rfl
        have ofn : ∀ f, ρ (.func f) = .func (.func f) #[] #[] := fun f => hout (.func f) rfl
        clear hdep hout
        refine .inl ⟨?_, ?_⟩
        · rfl
        show Gives _ _ _ (.bool false) _
        refine Gives.val ?_
        go_simp
      cases ho
    case fin =>
      intro x hBx
      have hBf := HAl.out.trans (hBx.mono HAl.out.size)
      go_wp2_with fail
      go_ret
      exact ⟨retBool (by have hfl := HFN.out.1; first | (simp [endF, noSite, HFN.out.1, hs]; done) | (simp [endF, noSite, HFN.out.1, hs]; intros; omega) | (simp_all [endF, noSite]; done) | (simp_all [endF, noSite] <;> omega)), hBf⟩
  · by_cases e1 : n2 = 1
    · subst e1
      go_enter Try.func55, Try.ntmps55
      go_wp2_with fail
      refine (isWord_e n3 _).mono ?_
      rintro e z ⟨rfl, rfl⟩
      cases hw : inI n3 (-16) 15
      all_goals
        go_wp2_with fail
        go_ret
        exact ⟨retBool (by have hfl := HFN.out.1; first | (simp [endF, noSite, HFN.out.1, hs, wdF, hw]; done) | (simp [endF, noSite, HFN.out.1, hs, wdF, hw]; intros; omega) | (simp_all [endF, noSite]; done) | (simp_all [endF, noSite] <;> omega)), by first | exact (Below.refl _ _).alloc (Nat.le_refl _) _ | go_grown⟩
    · go_enter Try.func55, Try.ntmps55
      go_wp2_with fail
      all_goals
        go_ret
        exact ⟨retBool (by have hfl := HFN.out.1; first | (simp [endF, noSite, HFN.out.1, hs, e1, e2, *]; done) | (simp [endF, noSite, HFN.out.1, hs, e1, e2, *]; intros; omega) | (simp_all [endF, noSite]; done) | (simp_all [endF, noSite] <;> omega)), by first | exact (Below.refl _ _).alloc (Nat.le_refl _) _ | go_grown⟩

set_option maxRecDepth 100000 in
set_option maxHeartbeats 8000000 in
theorem endOk_S0G1 (x0 : World) (B : Nat) (v : Value) (P : List (List I4)) (h : ProgAt x0 B v P) (hok : progOkF P = true) (s : Value) (F : List Fr) (hF : FrsAt x0 s F) (hl5 : F.length ≤ 5) (n1 n2 n3 n4 n5 n6 : Int) (hs : ¬ n4 = 0) (hg : 0 < F.length) (ho : ¬ n3 = 0) :
    Calls Try.prog 55 #[v, aggRun s (n1, n2, n3, n4, n5, n6)] x0 fun e y => e = .returned (.bool (endF P F n2 n3 (n4, n5, n6))) ∧ Below x0.heap.size x0 y := by
  obtain ⟨p, cap, rfl, _⟩ := h.shape
  obtain ⟨ps, cs, rfl, _⟩ := hF.shape
  unfold aggRun
  dsimp only
  have H : Hid (ProgAt x0 B (.slice p P.length cap) P) := h
  have HOK : Hid (progOkF P = true) := hok
  have HS : Hid (FrsAt x0 (.slice ps F.length cs) F) := hF
  have hl := progOkF_len hok
  have hn4 : (P.length : Int) ≤ 4 := by omega
  have hf5 : (F.length : Int) ≤ 5 := by omega
  clear h hok hF hl
  have hsb : (n4 == 0) = false := by simpa using hs
  have hob : (n3 == 0) = false := by simpa using ho
  generalize hfn : F.length = fn at *
  generalize hpn : P.length = pn at *
  have HFN : Hid (F.length = fn ∧ P.length = pn) := ⟨hfn, hpn⟩
  clear hfn hpn
  have hgi : (0 : Int) < (fn : Int) := by omega
  by_cases e2 : n2 = 2
  · subst e2
    have HAl : Hid (Below x0.heap.size x0 (x0.alloc (.cells #[.slice ps fn cs, .int .i64 n1, .int .i64 2, .int .i64 n3, .int .i64 n4, .int .i64 n5, .int .i64 n6] 56))) := (Below.refl _ _).alloc (Nat.le_refl _) _
    have K00 : Hid (BxN (x0.alloc (.cells #[.slice ps fn cs, .int .i64 n1, .int .i64 2, .int .i64 n3, .int .i64 n4, .int .i64 n5, .int .i64 n6] 56)) x0.heap.size [.slice ps fn cs, .int .i64 n1, .int .i64 2, .int .i64 n3, .int .i64 n4, .int .i64 n5, .int .i64 n6]) := BxN.new x0 [_, _, _, _, _, _, _] _
    go_enter Try.func55, Try.ntmps55
    go_wp2_with fail
    generalize x0.alloc (.cells #[.slice ps fn cs, .int .i64 n1, .int .i64 2, .int .i64 n3, .int .i64 n4, .int .i64 n5, .int .i64 n6] 56) = X at HAl K00 ⊢
    refine wp_region_vals (by kernel_rfl) (by kernel_rfl) (by kernel_rfl) (by kernel_rfl) (fun j => [.bool false, .bool false, undef, undef, undef, undef, .bool false, .bool false, undef, undef, undef, undef, .bool false, .bool false].getD j undef) X (Below.drew (Below.refl _ _)) ?step ⟨#[.slice p pn cap, .agg #[.slice ps fn cs, .int .i64 n1, .int .i64 2, .int .i64 n3, .int .i64 n4, .int .i64 n5, .int .i64 n6], undef, .pointer (some ⟨x0.heap.size, 0, none⟩), .bool false, .bool false, .bool false, .pointer (some ⟨x0.heap.size, 0, none⟩), .slice ps fn cs, .int .i64 ↑fn, .bool true, .bool true, .pointer (some ⟨x0.heap.size, 3, none⟩), .int .i64 n3, .bool false, .bool false, .pointer (some ⟨x0.heap.size, 4, none⟩), .agg #[.int .i64 n4, .int .i64 n5, .int .i64 n6], .agg #[.int .i64 0, .int .i64 0, .int .i64 0], .bool false, .pointer (some ⟨x0.heap.size, 2, none⟩), .int .i64 2, .bool false, .bool false, undef, undef, undef, undef, .bool false, .bool false, undef, undef, undef, undef, undef, undef, undef, undef, undef, undef, undef, undef, .bool true, .bool true, .bool false, .bool false, undef, undef, undef, undef, .bool false, .bool false, undef, undef, undef, undef, .bool false, undef, undef, undef, undef, undef, undef, undef, undef, undef, undef, undef, undef], []⟩ (by kernel_rfl) ?fin
    case step =>
      intro i o ho ρ y x hBx hdep hout
      rcases i with _ | i
      · obtain rfl := Option.some.inj ho
        have o5 : ρ (.tmp 5) = .bool false := hout (.tmp 5) rfl
        have ocn : ∀ v, ρ (.const v) = v := fun v => hout (.const v) rfl
        have ofn : ∀ f, ρ (.func f) = .func (.func f) #[] #[] := fun f => hout (.func f) rfl
        clear hdep hout
        refine .inl ⟨?_, ?_⟩
        · rfl
        show Gives _ _ _ (.bool false) _
        refine Gives.val ?_
        go_simp
      rcases i with _ | i
      · obtain rfl := Option.some.inj ho
        have e0 : ρ (.tmp 44) = .bool false := (hdep ⟨0, .data⟩ (by simp) rfl).1 44 rfl
        have ocn : ∀ v, ρ (.const v) = v := fun v => hout (.const v) rfl
        have ofn : ∀ f, ρ (.func f) = .func (.func f) #[] #[] := fun f => hout (.func f) rfl
        clear hdep hout
        refine .inl ⟨?_, ?_⟩
        · rfl
        show Gives _ _ _ (.bool false) _
        refine Gives.val ?_
        go_simp
      rcases i with _ | i
      · obtain rfl := Option.some.inj ho
        have o0 : ρ (.tmp 0) = .slice p pn cap := hout (.tmp 0) rfl
        have yg : y 1 = some false := (hdep ⟨1, .guard⟩ (by simp) rfl).2 45 rfl
        have ocn : ∀ v, ρ (.const v) = v := fun v => hout (.const v) rfl
        have ofn : ∀ f, ρ (.func f) = .func (.func f) #[] #[] := fun f => hout (.func f) rfl
        clear hdep hout
        refine .inr ⟨?_, rfl⟩
        show (y 1 == some true) = false
        rw [yg]; rfl
      rcases i with _ | i
      · obtain rfl := Option.some.inj ho
        have o3 : ρ (.tmp 3) = .pointer (some ⟨x0.heap.size, 0, none⟩) := hout (.tmp 3) rfl
        have yg : y 1 = some false := (hdep ⟨1, .guard⟩ (by simp) rfl).2 45 rfl
        have ocn : ∀ v, ρ (.const v) = v := fun v => hout (.const v) rfl
        have ofn : ∀ f, ρ (.func f) = .func (.func f) #[] #[] := fun f => hout (.func f) rfl
        clear hdep hout
        refine .inr ⟨?_, rfl⟩
        show (y 1 == some true) = false
        rw [yg]; rfl
      rcases i with _ | i
      · obtain rfl := Option.some.inj ho
        have e3 : ρ (.tmp 47) = undef := (hdep ⟨3, .data⟩ (by simp) rfl).1 47 rfl
        have yg : y 1 = some false := (hdep ⟨1, .guard⟩ (by simp) rfl).2 45 rfl
        have ocn : ∀ v, ρ (.const v) = v := fun v => hout (.const v) rfl
        have ofn : ∀ f, ρ (.func f) = .func (.func f) #[] #[] := fun f => hout (.func f) rfl
        clear hdep hout
        refine .inr ⟨?_, rfl⟩
        show (y 1 == some true) = false
        rw [yg]; rfl
      rcases i with _ | i
      · obtain rfl := Option.some.inj ho
        have e2 : ρ (.tmp 46) = undef := (hdep ⟨2, .data⟩ (by simp) rfl).1 46 rfl
        have e4 : ρ (.tmp 48) = undef := (hdep ⟨4, .data⟩ (by simp) rfl).1 48 rfl
        have yg : y 1 = some false := (hdep ⟨1, .guard⟩ (by simp) rfl).2 45 rfl
        have ocn : ∀ v, ρ (.const v) = v := fun v => hout (.const v) rfl
        have ofn : ∀ f, ρ (.func f) = .func (.func f) #[] #[] := fun f => hout (.func f) rfl
        clear hdep hout
        refine .inr ⟨?_, rfl⟩
        show (y 1 == some true) = false
        rw [yg]; rfl
      rcases i with _ | i
      · obtain rfl := Option.some.inj ho
        have e1 : ρ (.tmp 45) = .bool false := (hdep ⟨1, .data⟩ (by simp) rfl).1 45 rfl
        have e5 : ρ (.tmp 49) = undef := (hdep ⟨5, .data⟩ (by simp) rfl).1 49 rfl
        have ocn : ∀ v, ρ (.const v) = v := fun v => hout (.const v) rfl
        have ofn : ∀ f, ρ (.func f) = .func (.func f) #[] #[] := fun f => hout (.func f) rfl
        clear hdep hout
        refine .inl ⟨?_, ?_⟩
        · rfl
        show Gives _ _ _ (.bool false) _
        refine Gives.val ?_
        go_simp
      rcases i with _ | i
      · obtain rfl := Option.some.inj ho
        have e6 : ρ (.tmp 50) = .bool false := (hdep ⟨6, .data⟩ (by simp) rfl).1 50 rfl
        have ocn : ∀ v, ρ (.const v) = v := fun v => hout (.const v) rfl
        have ofn : ∀ f, ρ (.func f) = .func (.func f) #[] #[] := fun f => hout (.func f) rfl
        clear hdep hout
        refine .inl ⟨?_, ?_⟩
        · rfl
        show Gives _ _ _ (.bool false) _
        refine Gives.val ?_
        go_simp
      rcases i with _ | i
      · obtain rfl := Option.some.inj ho
        have o3 : ρ (.tmp 3) = .pointer (some ⟨x0.heap.size, 0, none⟩) := hout (.tmp 3) rfl
        have yg : y 7 = some false := (hdep ⟨7, .guard⟩ (by simp) rfl).2 51 rfl
        have ocn : ∀ v, ρ (.const v) = v := fun v => hout (.const v) rfl
        have ofn : ∀ f, ρ (.func f) = .func (.func f) #[] #[] := fun f => hout (.func f) rfl
        clear hdep hout
        refine .inr ⟨?_, rfl⟩
        show (y 7 == some true) = false
        rw [yg]; rfl
      rcases i with _ | i
      · obtain rfl := Option.some.inj ho
        have e8 : ρ (.tmp 52) = undef := (hdep ⟨8, .data⟩ (by simp) rfl).1 52 rfl
        have yg : y 7 = some false := (hdep ⟨7, .guard⟩ (by simp) rfl).2 51 rfl
        have ocn : ∀ v, ρ (.const v) = v := fun v => hout (.const v) rfl
        have ofn : ∀ f, ρ (.func f) = .func (.func f) #[] #[] := fun f => hout (.func f) rfl
        clear hdep hout
        refine .inr ⟨?_, rfl⟩
        show (y 7 == some true) = false
        rw [yg]; rfl
      rcases i with _ | i
      · obtain rfl := Option.some.inj ho
        have o3 : ρ (.tmp 3) = .pointer (some ⟨x0.heap.size, 0, none⟩) := hout (.tmp 3) rfl
        have yg : y 7 = some false := (hdep ⟨7, .guard⟩ (by simp) rfl).2 51 rfl
        have ocn : ∀ v, ρ (.const v) = v := fun v => hout (.const v) rfl
        have ofn : ∀ f, ρ (.func f) = .func (.func f) #[] #[] := fun f => hout (.func f) rfl
        clear hdep hout
        refine .inr ⟨?_, rfl⟩
        show (y 7 == some true) = false
        rw [yg]; rfl
      rcases i with _ | i
      · obtain rfl := Option.some.inj ho
        have e9 : ρ (.tmp 53) = undef := (hdep ⟨9, .data⟩ (by simp) rfl).1 53 rfl
        have e10 : ρ (.tmp 54) = undef := (hdep ⟨10, .data⟩ (by simp) rfl).1 54 rfl
        have yg : y 7 = some false := (hdep ⟨7, .guard⟩ (by simp) rfl).2 51 rfl
        have ocn : ∀ v, ρ (.const v) = v := fun v => hout (.const v) rfl
        have ofn : ∀ f, ρ (.func f) = .func (.func f) #[] #[] := fun f => hout (.func f) rfl
        clear hdep hout
        refine .inr ⟨?_, rfl⟩
        show (y 7 == some true) = false
        rw [yg]; rfl
      rcases i with _ | i
      · obtain rfl := Option.some.inj ho
        have e7 : ρ (.tmp 51) = .bool false := (hdep ⟨7, .data⟩ (by simp) rfl).1 51 rfl
        have e11 : ρ (.tmp 55) = undef := (hdep ⟨11, .data⟩ (by simp) rfl).1 55 rfl
        have ocn : ∀ v, ρ (.const v) = v := fun v => hout (.const v) rfl
        have ofn : ∀ f, ρ (.func f) = .func (.func f) #[] #[] := fun f => hout (.func f) rfl
        clear hdep hout
        refine .inl ⟨?_, ?_⟩
        · rfl
        show Gives _ _ _ (.bool false) _
        refine Gives.val ?_
        go_simp
      rcases i with _ | i
      · obtain rfl := Option.some.inj ho
        have e12 : ρ (.tmp 56) = .bool false := (hdep ⟨12, .data⟩ (by simp) rfl).1 56 rfl
        have ocn : ∀ v, ρ (.const v) = v := fun v => hout (.const v) rfl
        have ofn : ∀ f, ρ (.func f) = .func (.func f) #[] #[] := fun f => hout (.func f) rfl
        clear hdep hout
        refine .inl ⟨?_, ?_⟩
        · rfl
        show Gives _ _ _ (.bool false) _
        refine Gives.val ?_
        go_simp
      cases ho
    case fin =>
      intro x hBx
      have hBf := HAl.out.trans (hBx.mono HAl.out.size)
      go_wp2_with fail
      go_ret
      exact ⟨retBool (by have hfl := HFN.out.1; first | (simp [endF, noSite, HFN.out.1, hs, ho]; done) | (simp [endF, noSite, HFN.out.1, hs, ho]; intros; omega) | (simp_all [endF, noSite]; done) | (simp_all [endF, noSite] <;> omega)), hBf⟩
  · by_cases e1 : n2 = 1
    · subst e1
      go_enter Try.func55, Try.ntmps55
      go_wp2_with fail
      go_ret
      exact ⟨retBool (by have hfl := HFN.out.1; first | (simp [endF, noSite, HFN.out.1, hs, ho]; done) | (simp [endF, noSite, HFN.out.1, hs, ho]; intros; omega) | (simp_all [endF, noSite]; done) | (simp_all [endF, noSite] <;> omega)), by first | exact (Below.refl _ _).alloc (Nat.le_refl _) _ | go_grown⟩
    · go_enter Try.func55, Try.ntmps55
      go_wp2_with fail
      all_goals
        go_ret
        exact ⟨retBool (by have hfl := HFN.out.1; first | (simp [endF, noSite, HFN.out.1, hs, ho, e1, e2, *]; done) | (simp [endF, noSite, HFN.out.1, hs, ho, e1, e2, *]; intros; omega) | (simp_all [endF, noSite]; done) | (simp_all [endF, noSite] <;> omega)), by first | exact (Below.refl _ _).alloc (Nat.le_refl _) _ | go_grown⟩

set_option maxRecDepth 100000 in
set_option maxHeartbeats 8000000 in
theorem endOk_S0G2 (x0 : World) (B : Nat) (v : Value) (P : List (List I4)) (h : ProgAt x0 B v P) (hok : progOkF P = true) (s : Value) (F : List Fr) (hF : FrsAt x0 s F) (hl5 : F.length ≤ 5) (n1 n2 n3 n4 n5 n6 : Int) (hs : ¬ n4 = 0) (hg : 0 < F.length) (ho : n3 = 0) :
    Calls Try.prog 55 #[v, aggRun s (n1, n2, n3, n4, n5, n6)] x0 fun e y => e = .returned (.bool (endF P F n2 n3 (n4, n5, n6))) ∧ Below x0.heap.size x0 y := by
  obtain ⟨p, cap, rfl, _⟩ := h.shape
  obtain ⟨ps, cs, rfl, _⟩ := hF.shape
  unfold aggRun
  dsimp only
  have H : Hid (ProgAt x0 B (.slice p P.length cap) P) := h
  have HOK : Hid (progOkF P = true) := hok
  have HS : Hid (FrsAt x0 (.slice ps F.length cs) F) := hF
  have hl := progOkF_len hok
  have hn4 : (P.length : Int) ≤ 4 := by omega
  have hf5 : (F.length : Int) ≤ 5 := by omega
  clear h hok hF hl
  have hsb : (n4 == 0) = false := by simpa using hs
  subst ho
  generalize hfn : F.length = fn at *
  generalize hpn : P.length = pn at *
  have HFN : Hid (F.length = fn ∧ P.length = pn) := ⟨hfn, hpn⟩
  clear hfn hpn
  have hgi : (0 : Int) < (fn : Int) := by omega
  by_cases e2 : n2 = 2
  · subst e2
    have HAl : Hid (Below x0.heap.size x0 (x0.alloc (.cells #[.slice ps fn cs, .int .i64 n1, .int .i64 2, .int .i64 0, .int .i64 n4, .int .i64 n5, .int .i64 n6] 56))) := (Below.refl _ _).alloc (Nat.le_refl _) _
    have K00 : Hid (BxN (x0.alloc (.cells #[.slice ps fn cs, .int .i64 n1, .int .i64 2, .int .i64 0, .int .i64 n4, .int .i64 n5, .int .i64 n6] 56)) x0.heap.size [.slice ps fn cs, .int .i64 n1, .int .i64 2, .int .i64 0, .int .i64 n4, .int .i64 n5, .int .i64 n6]) := BxN.new x0 [_, _, _, _, _, _, _] _
    go_enter Try.func55, Try.ntmps55
    go_wp2_with fail
    generalize x0.alloc (.cells #[.slice ps fn cs, .int .i64 n1, .int .i64 2, .int .i64 0, .int .i64 n4, .int .i64 n5, .int .i64 n6] 56) = X at HAl K00 ⊢
    cases hso : siteOkF P (n4, n5, n6)
    · skip
      have HSO : Hid (∀ z : World, Below x0.heap.size x0 z → Calls Try.prog 80 #[.slice p pn cap, .agg #[.int .i64 n4, .int .i64 n5, .int .i64 n6]] z fun e y => e = .returned (.bool false) ∧ Below z.heap.size z y) := fun z hz => by
        have := siteOk_any z B (.slice p pn cap) P (H.out.later hz) HOK.out (n4, n5, n6)
        rw [hso] at this; exact this
      refine wp_region_vals (by kernel_rfl) (by kernel_rfl) (by kernel_rfl) (by kernel_rfl) (fun j => [.bool true, .bool true, .slice p pn cap, .pointer (some ⟨x0.heap.size, 4, none⟩), .agg #[.int .i64 n4, .int .i64 n5, .int .i64 n6], .bool false, .bool false, .bool false, undef, undef, undef, undef, .bool false, .bool false].getD j undef) X (Below.drew (Below.refl _ _)) ?step ⟨#[.slice p pn cap, .agg #[.slice ps fn cs, .int .i64 n1, .int .i64 2, .int .i64 0, .int .i64 n4, .int .i64 n5, .int .i64 n6], undef, .pointer (some ⟨x0.heap.size, 0, none⟩), .bool false, .bool true, .bool false, .pointer (some ⟨x0.heap.size, 0, none⟩), .slice ps fn cs, .int .i64 ↑fn, .bool true, .bool true, .pointer (some ⟨x0.heap.size, 3, none⟩), .int .i64 0, .bool true, .bool true, .pointer (some ⟨x0.heap.size, 4, none⟩), .agg #[.int .i64 n4, .int .i64 n5, .int .i64 n6], .agg #[.int .i64 0, .int .i64 0, .int .i64 0], .bool false, .pointer (some ⟨x0.heap.size, 2, none⟩), .int .i64 2, .bool false, .bool false, undef, undef, undef, undef, .bool false, .bool false, undef, undef, undef, undef, undef, undef, undef, undef, undef, undef, undef, undef, .bool true, .bool true, .bool true, .bool true, .slice p pn cap, .pointer (some ⟨x0.heap.size, 4, none⟩), .agg #[.int .i64 n4, .int .i64 n5, .int .i64 n6], .bool false, .bool false, .bool false, undef, undef, undef, undef, .bool false, undef, undef, undef, undef, undef, undef, undef, undef, undef, undef, undef, undef], []⟩ (by kernel_rfl) ?fin
      case step =>
        intro i o ho ρ y x hBx hdep hout
        rcases i with _ | i
        · obtain rfl := Option.some.inj ho
          have o5 : ρ (.tmp 5) = .bool true := hout (.tmp 5) rfl
          have ocn : ∀ v, ρ (.const v) = v := fun v => hout (.const v) rfl
          have ofn : ∀ f, ρ (.func f) = .func (.func f) #[] #[] := fun f => hout (.func f) rfl
          clear hdep hout
          refine .inl ⟨?_, ?_⟩
          · rfl
          show Gives _ _ _ (.bool true) _
          refine Gives.val ?_
          go_simp
        rcases i with _ | i
        · obtain rfl := Option.some.inj ho
          have e0 : ρ (.tmp 44) = .bool true := (hdep ⟨0, .data⟩ (by simp) rfl).1 44 rfl
          have ocn : ∀ v, ρ (.const v) = v := fun v => hout (.const v) rfl
          have ofn : ∀ f, ρ (.func f) = .func (.func f) #[] #[] := fun f => hout (.func f) rfl
          clear hdep hout
          refine .inl ⟨?_, ?_⟩
          · rfl
          show Gives _ _ _ (.bool true) _
          refine Gives.val ?_
          go_simp
        rcases i with _ | i
        · obtain rfl := Option.some.inj ho
          have o0 : ρ (.tmp 0) = .slice p pn cap := hout (.tmp 0) rfl
          have yg : y 1 = some true := (hdep ⟨1, .guard⟩ (by simp) rfl).2 45 rfl
          have ocn : ∀ v, ρ (.const v) = v := fun v => hout (.const v) rfl
          have ofn : ∀ f, ρ (.func f) = .func (.func f) #[] #[] := fun f => hout (.func f) rfl
          clear hdep hout
          refine .inl ⟨?_, ?_⟩
          · show (y 1 == some true) = true
            rw [yg]; rfl
          show Gives _ _ _ (.slice p pn cap) _
          refine Gives.val ?_
          go_simp
        rcases i with _ | i
        · obtain rfl := Option.some.inj ho
          have o3 : ρ (.tmp 3) = .pointer (some ⟨x0.heap.size, 0, none⟩) := hout (.tmp 3) rfl
          have yg : y 1 = some true := (hdep ⟨1, .guard⟩ (by simp) rfl).2 45 rfl
          have ocn : ∀ v, ρ (.const v) = v := fun v => hout (.const v) rfl
          have ofn : ∀ f, ρ (.func f) = .func (.func f) #[] #[] := fun f => hout (.func f) rfl
          clear hdep hout
          refine .inl ⟨?_, ?_⟩
          · show (y 1 == some true) = true
            rw [yg]; rfl
          show Gives _ _ _ (.pointer (some ⟨x0.heap.size, 4, none⟩)) _
          refine Gives.val ?_
          go_simp
        rcases i with _ | i
        · obtain rfl := Option.some.inj ho
          have e3 : ρ (.tmp 47) = .pointer (some ⟨x0.heap.size, 4, none⟩) := (hdep ⟨3, .data⟩ (by simp) rfl).1 47 rfl
          have yg : y 1 = some true := (hdep ⟨1, .guard⟩ (by simp) rfl).2 45 rfl
          have ocn : ∀ v, ρ (.const v) = v := fun v => hout (.const v) rfl
          have ofn : ∀ f, ρ (.func f) = .func (.func f) #[] #[] := fun f => hout (.func f) rfl
          clear hdep hout
          refine .inl ⟨?_, ?_⟩
          · show (y 1 == some true) = true
            rw [yg]; rfl
          have kb := K00.out.later hBx
          have c0 := kb.c 0 _ rfl
          have c3 := kb.c 3 _ rfl
          have c4 := kb.c 4 _ rfl
          have c5 := kb.c 5 _ rfl
          have c6 := kb.c 6 _ rfl
          have cl0 := kb.lt
          show Gives _ _ _ (.agg #[.int .i64 n4, .int .i64 n5, .int .i64 n6]) _
          refine Gives.val ?_
          go_simp
        rcases i with _ | i
        · obtain rfl := Option.some.inj ho
          have e2 : ρ (.tmp 46) = .slice p pn cap := (hdep ⟨2, .data⟩ (by simp) rfl).1 46 rfl
          have e4 : ρ (.tmp 48) = .agg #[.int .i64 n4, .int .i64 n5, .int .i64 n6] := (hdep ⟨4, .data⟩ (by simp) rfl).1 48 rfl
          have yg : y 1 = some true := (hdep ⟨1, .guard⟩ (by simp) rfl).2 45 rfl
          have ocn : ∀ v, ρ (.const v) = v := fun v => hout (.const v) rfl
          have ofn : ∀ f, ρ (.func f) = .func (.func f) #[] #[] := fun f => hout (.func f) rfl
          clear hdep hout
          refine .inl ⟨?_, ?_⟩
          · show (y 1 == some true) = true
            rw [yg]; rfl
          show Gives _ _ _ (.bool false) _
          refine Gives.call (HSO.out x (HAl.out.trans (hBx.mono HAl.out.size))) ?_
          go_simp
        rcases i with _ | i
        · obtain rfl := Option.some.inj ho
          have e1 : ρ (.tmp 45) = .bool true := (hdep ⟨1, .data⟩ (by simp) rfl).1 45 rfl
          have e5 : ρ (.tmp 49) = .bool false := (hdep ⟨5, .data⟩ (by simp) rfl).1 49 rfl
          have ocn : ∀ v, ρ (.const v) = v := fun v => hout (.const v) rfl
          have ofn : ∀ f, ρ (.func f) = .func (.func f) #[] #[] := fun f => hout (.func f) rfl
          clear hdep hout
          refine .inl ⟨?_, ?_⟩
          · rfl
          show Gives _ _ _ (.bool false) _
          refine Gives.val ?_
          go_simp
        rcases i with _ | i
        · obtain rfl := Option.some.inj ho
          have e6 : ρ (.tmp 50) = .bool false := (hdep ⟨6, .data⟩ (by simp) rfl).1 50 rfl
          have ocn : ∀ v, ρ (.const v) = v := fun v => hout (.const v) rfl
          have ofn : ∀ f, ρ (.func f) = .func (.func f) #[] #[] := fun f => hout (.func f) rfl
          clear hdep hout
          refine .inl ⟨?_, ?_⟩
          · rfl
          show Gives _ _ _ (.bool false) _
          refine Gives.val ?_
          go_simp
        rcases i with _ | i
        · obtain rfl := Option.some.inj ho
          have o3 : ρ (.tmp 3) = .pointer (some ⟨x0.heap.size, 0, none⟩) := hout (.tmp 3) rfl
          have yg : y 7 = some false := (hdep ⟨7, .guard⟩ (by simp) rfl).2 51 rfl
          have ocn : ∀ v, ρ (.const v) = v := fun v => hout (.const v) rfl
          have ofn : ∀ f, ρ (.func f) = .func (.func f) #[] #[] := fun f => hout (.func f) rfl
          clear hdep hout
          refine .inr ⟨?_, rfl⟩
          show (y 7 == some true) = false
          rw [yg]; rfl
        rcases i with _ | i
        · obtain rfl := Option.some.inj ho
          have e8 : ρ (.tmp 52) = undef := (hdep ⟨8, .data⟩ (by simp) rfl).1 52 rfl
          have yg : y 7 = some false := (hdep ⟨7, .guard⟩ (by simp) rfl).2 51 rfl
          have ocn : ∀ v, ρ (.const v) = v := fun v => hout (.const v) rfl
          have ofn : ∀ f, ρ (.func f) = .func (.func f) #[] #[] := fun f => hout (.func f) rfl
          clear hdep hout
          refine .inr ⟨?_, rfl⟩
          show (y 7 == some true) = false
          rw [yg]; rfl
        rcases i with _ | i
        · obtain rfl := Option.some.inj ho
          have o3 : ρ (.tmp 3) = .pointer (some ⟨x0.heap.size, 0, none⟩) := hout (.tmp 3) rfl
          have yg : y 7 = some false := (hdep ⟨7, .guard⟩ (by simp) rfl).2 51 rfl
          have ocn : ∀ v, ρ (.const v) = v := fun v => hout (.const v) rfl
          have ofn : ∀ f, ρ (.func f) = .func (.func f) #[] #[] := fun f => hout (.func f) rfl
          clear hdep hout
          refine .inr ⟨?_, rfl⟩
          show (y 7 == some true) = false
          rw [yg]; rfl
        rcases i with _ | i
        · obtain rfl := Option.some.inj ho
          have e9 : ρ (.tmp 53) = undef := (hdep ⟨9, .data⟩ (by simp) rfl).1 53 rfl
          have e10 : ρ (.tmp 54) = undef := (hdep ⟨10, .data⟩ (by simp) rfl).1 54 rfl
          have yg : y 7 = some false := (hdep ⟨7, .guard⟩ (by simp) rfl).2 51 rfl
          have ocn : ∀ v, ρ (.const v) = v := fun v => hout (.const v) rfl
          have ofn : ∀ f, ρ (.func f) = .func (.func f) #[] #[] := fun f => hout (.func f) rfl
          clear hdep hout
          refine .inr ⟨?_, rfl⟩
          show (y 7 == some true) = false
          rw [yg]; rfl
        rcases i with _ | i
        · obtain rfl := Option.some.inj ho
          have e7 : ρ (.tmp 51) = .bool false := (hdep ⟨7, .data⟩ (by simp) rfl).1 51 rfl
          have e11 : ρ (.tmp 55) = undef := (hdep ⟨11, .data⟩ (by simp) rfl).1 55 rfl
          have ocn : ∀ v, ρ (.const v) = v := fun v => hout (.const v) rfl
          have ofn : ∀ f, ρ (.func f) = .func (.func f) #[] #[] := fun f => hout (.func f) rfl
          clear hdep hout
          refine .inl ⟨?_, ?_⟩
          · rfl
          show Gives _ _ _ (.bool false) _
          refine Gives.val ?_
          go_simp
        rcases i with _ | i
        · obtain rfl := Option.some.inj ho
          have e12 : ρ (.tmp 56) = .bool false := (hdep ⟨12, .data⟩ (by simp) rfl).1 56 rfl
          have ocn : ∀ v, ρ (.const v) = v := fun v => hout (.const v) rfl
          have ofn : ∀ f, ρ (.func f) = .func (.func f) #[] #[] := fun f => hout (.func f) rfl
          clear hdep hout
          refine .inl ⟨?_, ?_⟩
          · rfl
          show Gives _ _ _ (.bool false) _
          refine Gives.val ?_
          go_simp
        cases ho
      case fin =>
        intro x hBx
        have hBf := HAl.out.trans (hBx.mono HAl.out.size)
        go_wp2_with fail
        go_ret
        exact ⟨retBool (by have hfl := HFN.out.1; first | (simp [endF, noSite, HFN.out.1, hs, hg, hso]; done) | (simp [endF, noSite, HFN.out.1, hs, hg, hso]; intros; omega) | (simp_all [endF, noSite]; done) | (simp_all [endF, noSite] <;> omega)), hBf⟩
    · skip
      have HSO : Hid (∀ z : World, Below x0.heap.size x0 z → Calls Try.prog 80 #[.slice p pn cap, .agg #[.int .i64 n4, .int .i64 n5, .int .i64 n6]] z fun e y => e = .returned (.bool true) ∧ Below z.heap.size z y) := fun z hz => by
        have := siteOk_any z B (.slice p pn cap) P (H.out.later hz) HOK.out (n4, n5, n6)
        rw [hso] at this; exact this
      obtain ⟨g, o, hp, hgx, hfr⟩ := FrsAt.frame (p := ps) (cap := cs) (F := F) (j := F.length - 1) (by have := HS.out; rw [← HFN.out.1] at this; exact this) (by rw [HFN.out.1]; omega)
      subst hp
      have HT : Hid ((F.getD (F.length - 1) fr0) = topF F) := rfl
      rw [HT.out] at hfr
      rw [HFN.out.1] at hfr
      have t0 := hfr.c0
      have t2 := hfr.c2
      have HTP : Hid (∀ z : World, Below X.heap.size X z → Calls Try.prog 82 #[.pointer (some ⟨x0.heap.size, 0, none⟩)] z fun e y => e = .returned (.pointer (some ⟨g, o + (fn - 1) * 6, none⟩)) ∧ Below z.heap.size z y) := fun z hz => by
        have kb := K00.out.later hz
        exact top_any z x0.heap.size g o fn cs (kb.c 0 _ rfl) hg (by have := HFN.out.1; omega) kb.lt (Nat.lt_of_lt_of_le hgx (HAl.out.trans (hz.mono HAl.out.size)).size)
      have HIS : Hid (∀ z : World, Below X.heap.size X z → Calls Try.prog 81 #[.agg #[.int .i64 n4, .int .i64 n5, .int .i64 n6], .pointer (some ⟨g, o + (fn - 1) * 6, none⟩)] z fun e y => e = .returned (.bool (decide (n4 = (topF F).p) && decide (n5 = (topF F).t))) ∧ Below z.heap.size z y) := fun z hz => by
        have hbz := HAl.out.trans (hz.mono HAl.out.size)
        exact isOf_any z g (o + (fn - 1) * 6) (topF F).p (topF F).t (n4, n5, n6) ((hbz.cell (p := ⟨g, _, none⟩) hgx).trans t0) ((hbz.cell (p := ⟨g, _, none⟩) hgx).trans t2) (Nat.lt_of_lt_of_le hgx hbz.size)
      refine wp_region_vals (by kernel_rfl) (by kernel_rfl) (by kernel_rfl) (by kernel_rfl) (fun j => [.bool true, .bool true, .slice p pn cap, .pointer (some ⟨x0.heap.size, 4, none⟩), .agg #[.int .i64 n4, .int .i64 n5, .int .i64 n6], .bool true, .bool true, .bool true, .pointer (some ⟨x0.heap.size, 4, none⟩), .agg #[.int .i64 n4, .int .i64 n5, .int .i64 n6], .pointer (some ⟨g, o + (fn - 1) * 6, none⟩), .bool (decide (n4 = (topF F).p) && decide (n5 = (topF F).t)), .bool (decide (n4 = (topF F).p) && decide (n5 = (topF F).t)), .bool (decide (n4 = (topF F).p) && decide (n5 = (topF F).t))].getD j undef) X (Below.drew (Below.refl _ _)) ?step ⟨#[.slice p pn cap, .agg #[.slice (some ⟨g, o, none⟩) fn cs, .int .i64 n1, .int .i64 2, .int .i64 0, .int .i64 n4, .int .i64 n5, .int .i64 n6], undef, .pointer (some ⟨x0.heap.size, 0, none⟩), .bool (decide (n4 = (topF F).p) && decide (n5 = (topF F).t)), .bool true, .bool false, .pointer (some ⟨x0.heap.size, 0, none⟩), .slice (some ⟨g, o, none⟩) fn cs, .int .i64 ↑fn, .bool true, .bool true, .pointer (some ⟨x0.heap.size, 3, none⟩), .int .i64 0, .bool true, .bool true, .pointer (some ⟨x0.heap.size, 4, none⟩), .agg #[.int .i64 n4, .int .i64 n5, .int .i64 n6], .agg #[.int .i64 0, .int .i64 0, .int .i64 0], .bool false, .pointer (some ⟨x0.heap.size, 2, none⟩), .int .i64 2, .bool false, .bool false, undef, undef, undef, undef, .bool false, .bool false, undef, undef, undef, undef, undef, undef, undef, undef, undef, undef, undef, undef, .bool true, .bool true, .bool true, .bool true, .slice p pn cap, .pointer (some ⟨x0.heap.size, 4, none⟩), .agg #[.int .i64 n4, .int .i64 n5, .int .i64 n6], .bool true, .bool true, .bool true, .pointer (some ⟨x0.heap.size, 4, none⟩), .agg #[.int .i64 n4, .int .i64 n5, .int .i64 n6], .pointer (some ⟨g, o + (fn - 1) * 6, none⟩), .bool (decide (n4 = (topF F).p) && decide (n5 = (topF F).t)), .bool (decide (n4 = (topF F).p) && decide (n5 = (topF F).t)), undef, undef, undef, undef, undef, undef, undef, undef, undef, undef, undef, undef], []⟩ (by kernel_rfl) ?fin
      case step =>
        intro i o ho ρ y x hBx hdep hout
        rcases i with _ | i
        · obtain rfl := Option.some.inj ho
          have o5 : ρ (.tmp 5) = .bool true := hout (.tmp 5) rfl
          have ocn : ∀ v, ρ (.const v) = v := fun v => hout (.const v) rfl
          have ofn : ∀ f, ρ (.func f) = .func (.func f) #[] #[] := fun f => hout (.func f) rfl
          clear hdep hout
          refine .inl ⟨?_, ?_⟩
          · rfl
          show Gives _ _ _ (.bool true) _
          refine Gives.val ?_
          go_simp
        rcases i with _ | i
        · obtain rfl := Option.some.inj ho
          have e0 : ρ (.tmp 44) = .bool true := (hdep ⟨0, .data⟩ (by simp) rfl).1 44 rfl
          have ocn : ∀ v, ρ (.const v) = v := fun v => hout (.const v) rfl
          have ofn : ∀ f, ρ (.func f) = .func (.func f) #[] #[] := fun f => hout (.func f) rfl
          clear hdep hout
          refine .inl ⟨?_, ?_⟩
          · rfl
          show Gives _ _ _ (.bool true) _
          refine Gives.val ?_
          go_simp
        rcases i with _ | i
        · obtain rfl := Option.some.inj ho
          have o0 : ρ (.tmp 0) = .slice p pn cap := hout (.tmp 0) rfl
          have yg : y 1 = some true := (hdep ⟨1, .guard⟩ (by simp) rfl).2 45 rfl
          have ocn : ∀ v, ρ (.const v) = v := fun v => hout (.const v) rfl
          have ofn : ∀ f, ρ (.func f) = .func (.func f) #[] #[] := fun f => hout (.func f) rfl
          clear hdep hout
          refine .inl ⟨?_, ?_⟩
          · show (y 1 == some true) = true
            rw [yg]; rfl
          show Gives _ _ _ (.slice p pn cap) _
          refine Gives.val ?_
          go_simp
        rcases i with _ | i
        · obtain rfl := Option.some.inj ho
          have o3 : ρ (.tmp 3) = .pointer (some ⟨x0.heap.size, 0, none⟩) := hout (.tmp 3) rfl
          have yg : y 1 = some true := (hdep ⟨1, .guard⟩ (by simp) rfl).2 45 rfl
          have ocn : ∀ v, ρ (.const v) = v := fun v => hout (.const v) rfl
          have ofn : ∀ f, ρ (.func f) = .func (.func f) #[] #[] := fun f => hout (.func f) rfl
          clear hdep hout
          refine .inl ⟨?_, ?_⟩
          · show (y 1 == some true) = true
            rw [yg]; rfl
          show Gives _ _ _ (.pointer (some ⟨x0.heap.size, 4, none⟩)) _
          refine Gives.val ?_
          go_simp
        rcases i with _ | i
        · obtain rfl := Option.some.inj ho
          have e3 : ρ (.tmp 47) = .pointer (some ⟨x0.heap.size, 4, none⟩) := (hdep ⟨3, .data⟩ (by simp) rfl).1 47 rfl
          have yg : y 1 = some true := (hdep ⟨1, .guard⟩ (by simp) rfl).2 45 rfl
          have ocn : ∀ v, ρ (.const v) = v := fun v => hout (.const v) rfl
          have ofn : ∀ f, ρ (.func f) = .func (.func f) #[] #[] := fun f => hout (.func f) rfl
          clear hdep hout
          refine .inl ⟨?_, ?_⟩
          · show (y 1 == some true) = true
            rw [yg]; rfl
          have kb := K00.out.later hBx
          have c0 := kb.c 0 _ rfl
          have c3 := kb.c 3 _ rfl
          have c4 := kb.c 4 _ rfl
          have c5 := kb.c 5 _ rfl
          have c6 := kb.c 6 _ rfl
          have cl0 := kb.lt
          show Gives _ _ _ (.agg #[.int .i64 n4, .int .i64 n5, .int .i64 n6]) _
          refine Gives.val ?_
          go_simp
        rcases i with _ | i
        · obtain rfl := Option.some.inj ho
          have e2 : ρ (.tmp 46) = .slice p pn cap := (hdep ⟨2, .data⟩ (by simp) rfl).1 46 rfl
          have e4 : ρ (.tmp 48) = .agg #[.int .i64 n4, .int .i64 n5, .int .i64 n6] := (hdep ⟨4, .data⟩ (by simp) rfl).1 48 rfl
          have yg : y 1 = some true := (hdep ⟨1, .guard⟩ (by simp) rfl).2 45 rfl
          have ocn : ∀ v, ρ (.const v) = v := fun v => hout (.const v) rfl
          have ofn : ∀ f, ρ (.func f) = .func (.func f) #[] #[] := fun f => hout (.func f) rfl
          clear hdep hout
          refine .inl ⟨?_, ?_⟩
          · show (y 1 == some true) = true
            rw [yg]; rfl
          show Gives _ _ _ (.bool true) _
          refine Gives.call (HSO.out x (HAl.out.trans (hBx.mono HAl.out.size))) ?_
          go_simp
        rcases i with _ | i
        · obtain rfl := Option.some.inj ho
          have e1 : ρ (.tmp 45) = .bool true := (hdep ⟨1, .data⟩ (by simp) rfl).1 45 rfl
          have e5 : ρ (.tmp 49) = .bool true := (hdep ⟨5, .data⟩ (by simp) rfl).1 49 rfl
          have ocn : ∀ v, ρ (.const v) = v := fun v => hout (.const v) rfl
          have ofn : ∀ f, ρ (.func f) = .func (.func f) #[] #[] := fun f => hout (.func f) rfl
          clear hdep hout
          refine .inl ⟨?_, ?_⟩
          · rfl
          show Gives _ _ _ (.bool true) _
          refine Gives.val ?_
          go_simp
        rcases i with _ | i
        · obtain rfl := Option.some.inj ho
          have e6 : ρ (.tmp 50) = .bool true := (hdep ⟨6, .data⟩ (by simp) rfl).1 50 rfl
          have ocn : ∀ v, ρ (.const v) = v := fun v => hout (.const v) rfl
          have ofn : ∀ f, ρ (.func f) = .func (.func f) #[] #[] := fun f => hout (.func f) rfl
          clear hdep hout
          refine .inl ⟨?_, ?_⟩
          · rfl
          show Gives _ _ _ (.bool true) _
          refine Gives.val ?_
          go_simp
        rcases i with _ | i
        · obtain rfl := Option.some.inj ho
          have o3 : ρ (.tmp 3) = .pointer (some ⟨x0.heap.size, 0, none⟩) := hout (.tmp 3) rfl
          have yg : y 7 = some true := (hdep ⟨7, .guard⟩ (by simp) rfl).2 51 rfl
          have ocn : ∀ v, ρ (.const v) = v := fun v => hout (.const v) rfl
          have ofn : ∀ f, ρ (.func f) = .func (.func f) #[] #[] := fun f => hout (.func f) rfl
          clear hdep hout
          refine .inl ⟨?_, ?_⟩
          · show (y 7 == some true) = true
            rw [yg]; rfl
          show Gives _ _ _ (.pointer (some ⟨x0.heap.size, 4, none⟩)) _
          refine Gives.val ?_
          go_simp
        rcases i with _ | i
        · obtain rfl := Option.some.inj ho
          have e8 : ρ (.tmp 52) = .pointer (some ⟨x0.heap.size, 4, none⟩) := (hdep ⟨8, .data⟩ (by simp) rfl).1 52 rfl
          have yg : y 7 = some true := (hdep ⟨7, .guard⟩ (by simp) rfl).2 51 rfl
          have ocn : ∀ v, ρ (.const v) = v := fun v => hout (.const v) rfl
          have ofn : ∀ f, ρ (.func f) = .func (.func f) #[] #[] := fun f => hout (.func f) rfl
          clear hdep hout
          refine .inl ⟨?_, ?_⟩
          · show (y 7 == some true) = true
            rw [yg]; rfl
          have kb := K00.out.later hBx
          have c0 := kb.c 0 _ rfl
          have c3 := kb.c 3 _ rfl
          have c4 := kb.c 4 _ rfl
          have c5 := kb.c 5 _ rfl
          have c6 := kb.c 6 _ rfl
          have cl0 := kb.lt
          show Gives _ _ _ (.agg #[.int .i64 n4, .int .i64 n5, .int .i64 n6]) _
          refine Gives.val ?_
          go_simp
        rcases i with _ | i
        · obtain rfl := Option.some.inj ho
          have o3 : ρ (.tmp 3) = .pointer (some ⟨x0.heap.size, 0, none⟩) := hout (.tmp 3) rfl
          have yg : y 7 = some true := (hdep ⟨7, .guard⟩ (by simp) rfl).2 51 rfl
          have ocn : ∀ v, ρ (.const v) = v := fun v => hout (.const v) rfl
          have ofn : ∀ f, ρ (.func f) = .func (.func f) #[] #[] := fun f => hout (.func f) rfl
          clear hdep hout
          refine .inl ⟨?_, ?_⟩
          · show (y 7 == some true) = true
            rw [yg]; rfl
          show Gives _ _ _ (.pointer (some ⟨g, o + (fn - 1) * 6, none⟩)) _
          refine Gives.call (HTP.out x hBx) ?_
          go_simp
        rcases i with _ | i
        · obtain rfl := Option.some.inj ho
          have e9 : ρ (.tmp 53) = .agg #[.int .i64 n4, .int .i64 n5, .int .i64 n6] := (hdep ⟨9, .data⟩ (by simp) rfl).1 53 rfl
          have e10 : ρ (.tmp 54) = .pointer (some ⟨g, o + (fn - 1) * 6, none⟩) := (hdep ⟨10, .data⟩ (by simp) rfl).1 54 rfl
          have yg : y 7 = some true := (hdep ⟨7, .guard⟩ (by simp) rfl).2 51 rfl
          have ocn : ∀ v, ρ (.const v) = v := fun v => hout (.const v) rfl
          have ofn : ∀ f, ρ (.func f) = .func (.func f) #[] #[] := fun f => hout (.func f) rfl
          clear hdep hout
          refine .inl ⟨?_, ?_⟩
          · show (y 7 == some true) = true
            rw [yg]; rfl
          show Gives _ _ _ (.bool (decide (n4 = (topF F).p) && decide (n5 = (topF F).t))) _
          refine Gives.call (HIS.out x hBx) ?_
          go_simp
        rcases i with _ | i
        · obtain rfl := Option.some.inj ho
          have e7 : ρ (.tmp 51) = .bool true := (hdep ⟨7, .data⟩ (by simp) rfl).1 51 rfl
          have e11 : ρ (.tmp 55) = .bool (decide (n4 = (topF F).p) && decide (n5 = (topF F).t)) := (hdep ⟨11, .data⟩ (by simp) rfl).1 55 rfl
          have ocn : ∀ v, ρ (.const v) = v := fun v => hout (.const v) rfl
          have ofn : ∀ f, ρ (.func f) = .func (.func f) #[] #[] := fun f => hout (.func f) rfl
          clear hdep hout
          refine .inl ⟨?_, ?_⟩
          · rfl
          show Gives _ _ _ (.bool (decide (n4 = (topF F).p) && decide (n5 = (topF F).t))) _
          refine Gives.val ?_
          go_simp
        rcases i with _ | i
        · obtain rfl := Option.some.inj ho
          have e12 : ρ (.tmp 56) = .bool (decide (n4 = (topF F).p) && decide (n5 = (topF F).t)) := (hdep ⟨12, .data⟩ (by simp) rfl).1 56 rfl
          have ocn : ∀ v, ρ (.const v) = v := fun v => hout (.const v) rfl
          have ofn : ∀ f, ρ (.func f) = .func (.func f) #[] #[] := fun f => hout (.func f) rfl
          clear hdep hout
          refine .inl ⟨?_, ?_⟩
          · rfl
          show Gives _ _ _ (.bool (decide (n4 = (topF F).p) && decide (n5 = (topF F).t))) _
          refine Gives.val ?_
          go_simp
        cases ho
      case fin =>
        intro x hBx
        have hBf := HAl.out.trans (hBx.mono HAl.out.size)
        go_wp2_with fail
        go_ret
        exact ⟨retBool (by have hfl := HFN.out.1; first | (simp [endF, noSite, HFN.out.1, hs, hg, hso]; done) | (simp [endF, noSite, HFN.out.1, hs, hg, hso]; intros; omega) | (simp_all [endF, noSite]; done) | (simp_all [endF, noSite] <;> omega)), hBf⟩
  · by_cases e1 : n2 = 1
    · subst e1
      go_enter Try.func55, Try.ntmps55
      go_wp2_with fail
      go_ret
      exact ⟨retBool (by have hfl := HFN.out.1; first | (simp [endF, noSite, HFN.out.1, hs, hg]; done) | (simp [endF, noSite, HFN.out.1, hs, hg]; intros; omega) | (simp_all [endF, noSite]; done) | (simp_all [endF, noSite] <;> omega)), by first | exact (Below.refl _ _).alloc (Nat.le_refl _) _ | go_grown⟩
    · go_enter Try.func55, Try.ntmps55
      go_wp2_with fail
      all_goals
        go_ret
        exact ⟨retBool (by have hfl := HFN.out.1; first | (simp [endF, noSite, HFN.out.1, hs, hg, e1, e2, *]; done) | (simp [endF, noSite, HFN.out.1, hs, hg, e1, e2, *]; intros; omega) | (simp_all [endF, noSite]; done) | (simp_all [endF, noSite] <;> omega)), by first | exact (Below.refl _ _).alloc (Nat.le_refl _) _ | go_grown⟩

set_option maxRecDepth 100000 in
set_option maxHeartbeats 8000000 in
theorem endOk_S1G0 (x0 : World) (B : Nat) (v : Value) (P : List (List I4)) (h : ProgAt x0 B v P) (hok : progOkF P = true) (s : Value) (F : List Fr) (hF : FrsAt x0 s F) (hl5 : F.length ≤ 5) (n1 n2 n3 n4 n5 n6 : Int) (hs0 : n4 = 0) (hs : ¬ n5 = 0) (hg : F.length = 0) :
    Calls Try.prog 55 #[v, aggRun s (n1, n2, n3, n4, n5, n6)] x0 fun e y => e = .returned (.bool (endF P F n2 n3 (n4, n5, n6))) ∧ Below x0.heap.size x0 y := by
  obtain ⟨p, cap, rfl, _⟩ := h.shape
  obtain ⟨ps, cs, rfl, _⟩ := hF.shape
  unfold aggRun
  dsimp only
  have H : Hid (ProgAt x0 B (.slice p P.length cap) P) := h
  have HOK : Hid (progOkF P = true) := hok
  have HS : Hid (FrsAt x0 (.slice ps F.length cs) F) := hF
  have hl := progOkF_len hok
  have hn4 : (P.length : Int) ≤ 4 := by omega
  have hf5 : (F.length : Int) ≤ 5 := by omega
  clear h hok hF hl
  subst hs0
  have hsb : (n5 == 0) = false := by simpa using hs
  generalize hfn : F.length = fn at *
  generalize hpn : P.length = pn at *
  have HFN : Hid (F.length = fn ∧ P.length = pn) := ⟨hfn, hpn⟩
  clear hfn hpn
  subst hg
  by_cases e2 : n2 = 2
  · subst e2
    have HAl : Hid (Below x0.heap.size x0 (x0.alloc (.cells #[.slice ps 0 cs, .int .i64 n1, .int .i64 2, .int .i64 n3, .int .i64 0, .int .i64 n5, .int .i64 n6] 56))) := (Below.refl _ _).alloc (Nat.le_refl _) _
    have K00 : Hid (BxN (x0.alloc (.cells #[.slice ps 0 cs, .int .i64 n1, .int .i64 2, .int .i64 n3, .int .i64 0, .int .i64 n5, .int .i64 n6] 56)) x0.heap.size [.slice ps 0 cs, .int .i64 n1, .int .i64 2, .int .i64 n3, .int .i64 0, .int .i64 n5, .int .i64 n6]) := BxN.new x0 [_, _, _, _, _, _, _] _
    go_enter Try.func55, Try.ntmps55
    go_wp2_with fail
    generalize x0.alloc (.cells #[.slice ps 0 cs, .int .i64 n1, .int .i64 2, .int .i64 n3, .int .i64 0, .int .i64 n5, .int .i64 n6] 56) = X at HAl K00 ⊢
    refine wp_region_vals (by kernel_rfl) (by kernel_rfl) (by kernel_rfl) (by kernel_rfl) (fun j => [.bool false, .bool false, undef, undef, undef, undef, .bool false, .bool false, undef, undef, undef, undef, .bool false, .bool false].getD j undef) X (Below.drew (Below.refl _ _)) ?step ⟨#[.slice p pn cap, .agg #[.slice ps 0 cs, .int .i64 n1, .int .i64 2, .int .i64 n3, .int .i64 0, .int .i64 n5, .int .i64 n6], undef, .pointer (some ⟨x0.heap.size, 0, none⟩), .bool false, .bool false, .bool false, .pointer (some ⟨x0.heap.size, 0, none⟩), .slice ps 0 cs, .int .i64 0, .bool false, .bool false, undef, undef, undef, .bool false, .pointer (some ⟨x0.heap.size, 4, none⟩), .agg #[.int .i64 0, .int .i64 n5, .int .i64 n6], .agg #[.int .i64 0, .int .i64 0, .int .i64 0], .bool false, .pointer (some ⟨x0.heap.size, 2, none⟩), .int .i64 2, .bool false, .bool false, undef, undef, undef, undef, .bool false, .bool false, undef, undef, undef, undef, undef, undef, undef, undef, undef, undef, undef, undef, .bool true, .bool true, .bool false, .bool false, undef, undef, undef, undef, .bool false, .bool false, undef, undef, undef, undef, .bool false, undef, undef, undef, undef, undef, undef, undef, undef, undef, undef, undef, undef], []⟩ (by kernel_rfl) ?fin
    case step =>
      intro i o ho ρ y x hBx hdep hout
      rcases i with _ | i
      · obtain rfl := Option.some.inj ho
        have o5 : ρ (.tmp 5) = .bool false := hout (.tmp 5) rfl
        have ocn : ∀ v, ρ (.const v) = v := fun v => hout (.const v) rfl
        have ofn : ∀ f, ρ (.func f) = .func (.func f) #[] #[] := fun f => hout (.func f) rfl
        clear hdep hout
        refine .inl ⟨?_, ?_⟩
        · rfl
        show Gives _ _ _ (.bool false) _
        refine Gives.val ?_
        go_simp
      rcases i with _ | i
      · obtain rfl := Option.some.inj ho
        have e0 : ρ (.tmp 44) = .bool false := (hdep ⟨0, .data⟩ (by simp) rfl).1 44 rfl
        have ocn : ∀ v, ρ (.const v) = v := fun v => hout (.const v) rfl
        have ofn : ∀ f, ρ (.func f) = .func (.func f) #[] #[] := fun f => hout (.func f) rfl
        clear hdep hout
        refine .inl ⟨?_, ?_⟩
        · rfl
        show Gives _ _ _ (.bool false) _
        refine Gives.val ?_
        go_simp
      rcases i with _ | i
      · obtain rfl := Option.some.inj ho
        have o0 : ρ (.tmp 0) = .slice p pn cap := hout (.tmp 0) rfl
        have yg : y 1 = some false := (hdep ⟨1, .guard⟩ (by simp) rfl).2 45 rfl
        have ocn : ∀ v, ρ (.const v) = v := fun v => hout (.const v) rfl
        have ofn : ∀ f, ρ (.func f) = .func (.func f) #[] #[] := fun f => hout (.func f) rfl
        clear hdep hout
        refine .inr ⟨?_, rfl⟩
        show (y 1 == some true) = false
        rw [yg]; rfl
      rcases i with _ | i
      · obtain rfl := Option.some.inj ho
        have o3 : ρ (.tmp 3) = .pointer (some ⟨x0.heap.size, 0, none⟩) := hout (.tmp 3) rfl
        have yg : y 1 = some false := (hdep ⟨1, .guard⟩ (by simp) rfl).2 45 rfl
        have ocn : ∀ v, ρ (.const v) = v := fun v => hout (.const v) rfl
        have ofn : ∀ f, ρ (.func f) = .func (.func f) #[] #[] := fun f => hout (.func f) rfl
        clear hdep hout
        refine .inr ⟨?_, rfl⟩
        show (y 1 == some true) = false
        rw [yg]; rfl
      rcases i with _ | i
      · obtain rfl := Option.some.inj ho
        have e3 : ρ (.tmp 47) = undef := (hdep ⟨3, .data⟩ (by simp) rfl).1 47 rfl
        have yg : y 1 = some false := (hdep ⟨1, .guard⟩ (by simp) rfl).2 45 rfl
        have ocn : ∀ v, ρ (.const v) = v := fun v => hout (.const v) rfl
        have ofn : ∀ f, ρ (.func f) = .func (.func f) #[] #[] := fun f => hout (.func f) rfl
        clear hdep hout
        refine .inr ⟨?_, rfl⟩
        show (y 1 == some true) = false
        rw [yg]; rfl
      rcases i with _ | i
      · obtain rfl := Option.some.inj ho
        have e2 : ρ (.tmp 46) = undef := (hdep ⟨2, .data⟩ (by simp) rfl).1 46 rfl
        have e4 : ρ (.tmp 48) = undef := (hdep ⟨4, .data⟩ (by simp) rfl).1 48 rfl
        have yg : y 1 = some false := (hdep ⟨1, .guard⟩ (by simp) rfl).2 45 rfl
        have ocn : ∀ v, ρ (.const v) = v := fun v => hout (.const v) rfl
        have ofn : ∀ f, ρ (.func f) = .func (.func f) #[] #[] := fun f => hout (.func f) rfl
        clear hdep hout
        refine .inr ⟨?_, rfl⟩
        show (y 1 == some true) = false
        rw [yg]; rfl
      rcases i with _ | i
      · obtain rfl := Option.some.inj ho
        have e1 : ρ (.tmp 45) = .bool false := (hdep ⟨1, .data⟩ (by simp) rfl).1 45 rfl
        have e5 : ρ (.tmp 49) = undef := (hdep ⟨5, .data⟩ (by simp) rfl).1 49 rfl
        have ocn : ∀ v, ρ (.const v) = v := fun v => hout (.const v) rfl
        have ofn : ∀ f, ρ (.func f) = .func (.func f) #[] #[] := fun f => hout (.func f) rfl
        clear hdep hout
        refine .inl ⟨?_, ?_⟩
        · rfl
        show Gives _ _ _ (.bool false) _
        refine Gives.val ?_
        go_simp
      rcases i with _ | i
      · obtain rfl := Option.some.inj ho
        have e6 : ρ (.tmp 50) = .bool false := (hdep ⟨6, .data⟩ (by simp) rfl).1 50 rfl
        have ocn : ∀ v, ρ (.const v) = v := fun v => hout (.const v) rfl
        have ofn : ∀ f, ρ (.func f) = .func (.func f) #[] #[] := fun f => hout (.func f) rfl
        clear hdep hout
        refine .inl ⟨?_, ?_⟩
        · rfl
        show Gives _ _ _ (.bool false) _
        refine Gives.val ?_
        go_simp
      rcases i with _ | i
      · obtain rfl := Option.some.inj ho
        have o3 : ρ (.tmp 3) = .pointer (some ⟨x0.heap.size, 0, none⟩) := hout (.tmp 3) rfl
        have yg : y 7 = some false := (hdep ⟨7, .guard⟩ (by simp) rfl).2 51 rfl
        have ocn : ∀ v, ρ (.const v) = v := fun v => hout (.const v) rfl
        have ofn : ∀ f, ρ (.func f) = .func (.func f) #[] #[] := fun f => hout (.func f) rfl
        clear hdep hout
        refine .inr ⟨?_, rfl⟩
        show (y 7 == some true) = false
        rw [yg]; rfl
      rcases i with _ | i
      · obtain rfl := Option.some.inj ho
        have e8 : ρ (.tmp 52) = undef := (hdep ⟨8, .data⟩ (by simp) rfl).1 52 rfl
        have yg : y 7 = some false := (hdep ⟨7, .guard⟩ (by simp) rfl).2 51 rfl
        have ocn : ∀ v, ρ (.const v) = v := fun v => hout (.const v) rfl
        have ofn : ∀ f, ρ (.func f) = .func (.func f) #[] #[] := fun f => hout (.func f) rfl
        clear hdep hout
        refine .inr ⟨?_, rfl⟩
        show (y 7 == some true) = false
        rw [yg]; rfl
      rcases i with _ | i
      · obtain rfl := Option.some.inj ho
        have o3 : ρ (.tmp 3) = .pointer (some ⟨x0.heap.size, 0, none⟩) := hout (.tmp 3) rfl
        have yg : y 7 = some false := (hdep ⟨7, .guard⟩ (by simp) rfl).2 51 rfl
        have ocn : ∀ v, ρ (.const v) = v := fun v => hout (.const v) rfl
        have ofn : ∀ f, ρ (.func f) = .func (.func f) #[] #[] := fun f => hout (.func f) rfl
        clear hdep hout
        refine .inr ⟨?_, rfl⟩
        show (y 7 == some true) = false
        rw [yg]; rfl
      rcases i with _ | i
      · obtain rfl := Option.some.inj ho
        have e9 : ρ (.tmp 53) = undef := (hdep ⟨9, .data⟩ (by simp) rfl).1 53 rfl
        have e10 : ρ (.tmp 54) = undef := (hdep ⟨10, .data⟩ (by simp) rfl).1 54 rfl
        have yg : y 7 = some false := (hdep ⟨7, .guard⟩ (by simp) rfl).2 51 rfl
        have ocn : ∀ v, ρ (.const v) = v := fun v => hout (.const v) rfl
        have ofn : ∀ f, ρ (.func f) = .func (.func f) #[] #[] := fun f => hout (.func f) rfl
        clear hdep hout
        refine .inr ⟨?_, rfl⟩
        show (y 7 == some true) = false
        rw [yg]; rfl
      rcases i with _ | i
      · obtain rfl := Option.some.inj ho
        have e7 : ρ (.tmp 51) = .bool false := (hdep ⟨7, .data⟩ (by simp) rfl).1 51 rfl
        have e11 : ρ (.tmp 55) = undef := (hdep ⟨11, .data⟩ (by simp) rfl).1 55 rfl
        have ocn : ∀ v, ρ (.const v) = v := fun v => hout (.const v) rfl
        have ofn : ∀ f, ρ (.func f) = .func (.func f) #[] #[] := fun f => hout (.func f) rfl
        clear hdep hout
        refine .inl ⟨?_, ?_⟩
        · rfl
        show Gives _ _ _ (.bool false) _
        refine Gives.val ?_
        go_simp
      rcases i with _ | i
      · obtain rfl := Option.some.inj ho
        have e12 : ρ (.tmp 56) = .bool false := (hdep ⟨12, .data⟩ (by simp) rfl).1 56 rfl
        have ocn : ∀ v, ρ (.const v) = v := fun v => hout (.const v) rfl
        have ofn : ∀ f, ρ (.func f) = .func (.func f) #[] #[] := fun f => hout (.func f) rfl
        clear hdep hout
        refine .inl ⟨?_, ?_⟩
        · rfl
        show Gives _ _ _ (.bool false) _
        refine Gives.val ?_
        go_simp
      cases ho
    case fin =>
      intro x hBx
      have hBf := HAl.out.trans (hBx.mono HAl.out.size)
      go_wp2_with fail
      go_ret
      exact ⟨retBool (by have hfl := HFN.out.1; first | (simp [endF, noSite, HFN.out.1, hs]; done) | (simp [endF, noSite, HFN.out.1, hs]; intros; omega) | (simp_all [endF, noSite]; done) | (simp_all [endF, noSite] <;> omega)), hBf⟩
  · by_cases e1 : n2 = 1
    · subst e1
      go_enter Try.func55, Try.ntmps55
      go_wp2_with fail
      refine (isWord_e n3 _).mono ?_
      rintro e z ⟨rfl, rfl⟩
      cases hw : inI n3 (-16) 15
      all_goals
        go_wp2_with fail
        go_ret
        exact ⟨retBool (by have hfl := HFN.out.1; first | (simp [endF, noSite, HFN.out.1, hs, wdF, hw]; done) | (simp [endF, noSite, HFN.out.1, hs, wdF, hw]; intros; omega) | (simp_all [endF, noSite]; done) | (simp_all [endF, noSite] <;> omega)), by first | exact (Below.refl _ _).alloc (Nat.le_refl _) _ | go_grown⟩
    · go_enter Try.func55, Try.ntmps55
      go_wp2_with fail
      all_goals
        go_ret
        exact ⟨retBool (by have hfl := HFN.out.1; first | (simp [endF, noSite, HFN.out.1, hs, e1, e2, *]; done) | (simp [endF, noSite, HFN.out.1, hs, e1, e2, *]; intros; omega) | (simp_all [endF, noSite]; done) | (simp_all [endF, noSite] <;> omega)), by first | exact (Below.refl _ _).alloc (Nat.le_refl _) _ | go_grown⟩

set_option maxRecDepth 100000 in
set_option maxHeartbeats 8000000 in
theorem endOk_S1G1 (x0 : World) (B : Nat) (v : Value) (P : List (List I4)) (h : ProgAt x0 B v P) (hok : progOkF P = true) (s : Value) (F : List Fr) (hF : FrsAt x0 s F) (hl5 : F.length ≤ 5) (n1 n2 n3 n4 n5 n6 : Int) (hs0 : n4 = 0) (hs : ¬ n5 = 0) (hg : 0 < F.length) (ho : ¬ n3 = 0) :
    Calls Try.prog 55 #[v, aggRun s (n1, n2, n3, n4, n5, n6)] x0 fun e y => e = .returned (.bool (endF P F n2 n3 (n4, n5, n6))) ∧ Below x0.heap.size x0 y := by
  obtain ⟨p, cap, rfl, _⟩ := h.shape
  obtain ⟨ps, cs, rfl, _⟩ := hF.shape
  unfold aggRun
  dsimp only
  have H : Hid (ProgAt x0 B (.slice p P.length cap) P) := h
  have HOK : Hid (progOkF P = true) := hok
  have HS : Hid (FrsAt x0 (.slice ps F.length cs) F) := hF
  have hl := progOkF_len hok
  have hn4 : (P.length : Int) ≤ 4 := by omega
  have hf5 : (F.length : Int) ≤ 5 := by omega
  clear h hok hF hl
  subst hs0
  have hsb : (n5 == 0) = false := by simpa using hs
  have hob : (n3 == 0) = false := by simpa using ho
  generalize hfn : F.length = fn at *
  generalize hpn : P.length = pn at *
  have HFN : Hid (F.length = fn ∧ P.length = pn) := ⟨hfn, hpn⟩
  clear hfn hpn
  have hgi : (0 : Int) < (fn : Int) := by omega
  by_cases e2 : n2 = 2
  · subst e2
    have HAl : Hid (Below x0.heap.size x0 (x0.alloc (.cells #[.slice ps fn cs, .int .i64 n1, .int .i64 2, .int .i64 n3, .int .i64 0, .int .i64 n5, .int .i64 n6] 56))) := (Below.refl _ _).alloc (Nat.le_refl _) _
    have K00 : Hid (BxN (x0.alloc (.cells #[.slice ps fn cs, .int .i64 n1, .int .i64 2, .int .i64 n3, .int .i64 0, .int .i64 n5, .int .i64 n6] 56)) x0.heap.size [.slice ps fn cs, .int .i64 n1, .int .i64 2, .int .i64 n3, .int .i64 0, .int .i64 n5, .int .i64 n6]) := BxN.new x0 [_, _, _, _, _, _, _] _
    go_enter Try.func55, Try.ntmps55
    go_wp2_with fail
    generalize x0.alloc (.cells #[.slice ps fn cs, .int .i64 n1, .int .i64 2, .int .i64 n3, .int .i64 0, .int .i64 n5, .int .i64 n6] 56) = X at HAl K00 ⊢
    refine wp_region_vals (by kernel_rfl) (by kernel_rfl) (by kernel_rfl) (by kernel_rfl) (fun j => [.bool false, .bool false, undef, undef, undef, undef, .bool false, .bool false, undef, undef, undef, undef, .bool false, .bool false].getD j undef) X (Below.drew (Below.refl _ _)) ?step ⟨#[.slice p pn cap, .agg #[.slice ps fn cs, .int .i64 n1, .int .i64 2, .int .i64 n3, .int .i64 0, .int .i64 n5, .int .i64 n6], undef, .pointer (some ⟨x0.heap.size, 0, none⟩), .bool false, .bool false, .bool false, .pointer (some ⟨x0.heap.size, 0, none⟩), .slice ps fn cs, .int .i64 ↑fn, .bool true, .bool true, .pointer (some ⟨x0.heap.size, 3, none⟩), .int .i64 n3, .bool false, .bool false, .pointer (some ⟨x0.heap.size, 4, none⟩), .agg #[.int .i64 0, .int .i64 n5, .int .i64 n6], .agg #[.int .i64 0, .int .i64 0, .int .i64 0], .bool false, .pointer (some ⟨x0.heap.size, 2, none⟩), .int .i64 2, .bool false, .bool false, undef, undef, undef, undef, .bool false, .bool false, undef, undef, undef, undef, undef, undef, undef, undef, undef, undef, undef, undef, .bool true, .bool true, .bool false, .bool false, undef, undef, undef, undef, .bool false, .bool false, undef, undef, undef, undef, .bool false, undef, undef, undef, undef, undef, undef, undef, undef, undef, undef, undef, undef], []⟩ (by kernel_rfl) ?fin
    case step =>
      intro i o ho ρ y x hBx hdep hout
      rcases i with _ | i
      · obtain rfl := Option.some.inj ho
        have o5 : ρ (.tmp 5) = .bool false := hout (.tmp 5) rfl
        have ocn : ∀ v, ρ (.const v) = v := fun v => hout (.const v) rfl
        have ofn : ∀ f, ρ (.func f) = .func (.func f) #[] #[] := fun f => hout (.func f) rfl
        clear hdep hout
        refine .inl ⟨?_, ?_⟩
        · rfl
        show Gives _ _ _ (.bool false) _
        refine Gives.val ?_
        go_simp
      rcases i with _ | i
      · obtain rfl := Option.some.inj ho
        have e0 : ρ (.tmp 44) = .bool false := (hdep ⟨0, .data⟩ (by simp) rfl).1 44 rfl
        have ocn : ∀ v, ρ (.const v) = v := fun v => hout (.const v) rfl
        have ofn : ∀ f, ρ (.func f) = .func (.func f) #[] #[] := fun f => hout (.func f) rfl
        clear hdep hout
        refine .inl ⟨?_, ?_⟩
        · rfl
        show Gives _ _ _ (.bool false) _
        refine Gives.val ?_
        go_simp
      rcases i with _ | i
      · obtain rfl := Option.some.inj ho
        have o0 : ρ (.tmp 0) = .slice p pn cap := hout (.tmp 0) rfl
        have yg : y 1 = some false := (hdep ⟨1, .guard⟩ (by simp) rfl).2 45 rfl
        have ocn : ∀ v, ρ (.const v) = v := fun v => hout (.const v) rfl
        have ofn : ∀ f, ρ (.func f) = .func (.func f) #[] #[] := fun f => hout (.func f) rfl
        clear hdep hout
        refine .inr ⟨?_, rfl⟩
        show (y 1 == some true) = false
        rw [yg]; rfl
      rcases i with _ | i
      · obtain rfl := Option.some.inj ho
        have o3 : ρ (.tmp 3) = .pointer (some ⟨x0.heap.size, 0, none⟩) := hout (.tmp 3) rfl
        have yg : y 1 = some false := (hdep ⟨1, .guard⟩ (by simp) rfl).2 45 rfl
        have ocn : ∀ v, ρ (.const v) = v := fun v => hout (.const v) rfl
        have ofn : ∀ f, ρ (.func f) = .func (.func f) #[] #[] := fun f => hout (.func f) rfl
        clear hdep hout
        refine .inr ⟨?_, rfl⟩
        show (y 1 == some true) = false
        rw [yg]; rfl
      rcases i with _ | i
      · obtain rfl := Option.some.inj ho
        have e3 : ρ (.tmp 47) = undef := (hdep ⟨3, .data⟩ (by simp) rfl).1 47 rfl
        have yg : y 1 = some false := (hdep ⟨1, .guard⟩ (by simp) rfl).2 45 rfl
        have ocn : ∀ v, ρ (.const v) = v := fun v => hout (.const v) rfl
        have ofn : ∀ f, ρ (.func f) = .func (.func f) #[] #[] := fun f => hout (.func f) rfl
        clear hdep hout
        refine .inr ⟨?_, rfl⟩
        show (y 1 == some true) = false
        rw [yg]; rfl
      rcases i with _ | i
      · obtain rfl := Option.some.inj ho
        have e2 : ρ (.tmp 46) = undef := (hdep ⟨2, .data⟩ (by simp) rfl).1 46 rfl
        have e4 : ρ (.tmp 48) = undef := (hdep ⟨4, .data⟩ (by simp) rfl).1 48 rfl
        have yg : y 1 = some false := (hdep ⟨1, .guard⟩ (by simp) rfl).2 45 rfl
        have ocn : ∀ v, ρ (.const v) = v := fun v => hout (.const v) rfl
        have ofn : ∀ f, ρ (.func f) = .func (.func f) #[] #[] := fun f => hout (.func f) rfl
        clear hdep hout
        refine .inr ⟨?_, rfl⟩
        show (y 1 == some true) = false
        rw [yg]; rfl
      rcases i with _ | i
      · obtain rfl := Option.some.inj ho
        have e1 : ρ (.tmp 45) = .bool false := (hdep ⟨1, .data⟩ (by simp) rfl).1 45 rfl
        have e5 : ρ (.tmp 49) = undef := (hdep ⟨5, .data⟩ (by simp) rfl).1 49 rfl
        have ocn : ∀ v, ρ (.const v) = v := fun v => hout (.const v) rfl
        have ofn : ∀ f, ρ (.func f) = .func (.func f) #[] #[] := fun f => hout (.func f) rfl
        clear hdep hout
        refine .inl ⟨?_, ?_⟩
        · rfl
        show Gives _ _ _ (.bool false) _
        refine Gives.val ?_
        go_simp
      rcases i with _ | i
      · obtain rfl := Option.some.inj ho
        have e6 : ρ (.tmp 50) = .bool false := (hdep ⟨6, .data⟩ (by simp) rfl).1 50 rfl
        have ocn : ∀ v, ρ (.const v) = v := fun v => hout (.const v) rfl
        have ofn : ∀ f, ρ (.func f) = .func (.func f) #[] #[] := fun f => hout (.func f) rfl
        clear hdep hout
        refine .inl ⟨?_, ?_⟩
        · rfl
        show Gives _ _ _ (.bool false) _
        refine Gives.val ?_
        go_simp
      rcases i with _ | i
      · obtain rfl := Option.some.inj ho
        have o3 : ρ (.tmp 3) = .pointer (some ⟨x0.heap.size, 0, none⟩) := hout (.tmp 3) rfl
        have yg : y 7 = some false := (hdep ⟨7, .guard⟩ (by simp) rfl).2 51 rfl
        have ocn : ∀ v, ρ (.const v) = v := fun v => hout (.const v) rfl
        have ofn : ∀ f, ρ (.func f) = .func (.func f) #[] #[] := fun f => hout (.func f) rfl
        clear hdep hout
        refine .inr ⟨?_, rfl⟩
        show (y 7 == some true) = false
        rw [yg]; rfl
      rcases i with _ | i
      · obtain rfl := Option.some.inj ho
        have e8 : ρ (.tmp 52) = undef := (hdep ⟨8, .data⟩ (by simp) rfl).1 52 rfl
        have yg : y 7 = some false := (hdep ⟨7, .guard⟩ (by simp) rfl).2 51 rfl
        have ocn : ∀ v, ρ (.const v) = v := fun v => hout (.const v) rfl
        have ofn : ∀ f, ρ (.func f) = .func (.func f) #[] #[] := fun f => hout (.func f) rfl
        clear hdep hout
        refine .inr ⟨?_, rfl⟩
        show (y 7 == some true) = false
        rw [yg]; rfl
      rcases i with _ | i
      · obtain rfl := Option.some.inj ho
        have o3 : ρ (.tmp 3) = .pointer (some ⟨x0.heap.size, 0, none⟩) := hout (.tmp 3) rfl
        have yg : y 7 = some false := (hdep ⟨7, .guard⟩ (by simp) rfl).2 51 rfl
        have ocn : ∀ v, ρ (.const v) = v := fun v => hout (.const v) rfl
        have ofn : ∀ f, ρ (.func f) = .func (.func f) #[] #[] := fun f => hout (.func f) rfl
        clear hdep hout
        refine .inr ⟨?_, rfl⟩
        show (y 7 == some true) = false
        rw [yg]; rfl
      rcases i with _ | i
      · obtain rfl := Option.some.inj ho
        have e9 : ρ (.tmp 53) = undef := (hdep ⟨9, .data⟩ (by simp) rfl).1 53 rfl
        have e10 : ρ (.tmp 54) = undef := (hdep ⟨10, .data⟩ (by simp) rfl).1 54 rfl
        have yg : y 7 = some false := (hdep ⟨7, .guard⟩ (by simp) rfl).2 51 rfl
        have ocn : ∀ v, ρ (.const v) = v := fun v => hout (.const v) rfl
        have ofn : ∀ f, ρ (.func f) = .func (.func f) #[] #[] := fun f => hout (.func f) rfl
        clear hdep hout
        refine .inr ⟨?_, rfl⟩
        show (y 7 == some true) = false
        rw [yg]; rfl
      rcases i with _ | i
      · obtain rfl := Option.some.inj ho
        have e7 : ρ (.tmp 51) = .bool false := (hdep ⟨7, .data⟩ (by simp) rfl).1 51 rfl
        have e11 : ρ (.tmp 55) = undef := (hdep ⟨11, .data⟩ (by simp) rfl).1 55 rfl
        have ocn : ∀ v, ρ (.const v) = v := fun v => hout (.const v) rfl
        have ofn : ∀ f, ρ (.func f) = .func (.func f) #[] #[] := fun f => hout (.func f) rfl
        clear hdep hout
        refine .inl ⟨?_, ?_⟩
        · rfl
        show Gives _ _ _ (.bool false) _
        refine Gives.val ?_
        go_simp
      rcases i with _ | i
      · obtain rfl := Option.some.inj ho
        have e12 : ρ (.tmp 56) = .bool false := (hdep ⟨12, .data⟩ (by simp) rfl).1 56 rfl
        have ocn : ∀ v, ρ (.const v) = v := fun v => hout (.const v) rfl
        have ofn : ∀ f, ρ (.func f) = .func (.func f) #[] #[] := fun f => hout (.func f) rfl
        clear hdep hout
        refine .inl ⟨?_, ?_⟩
        · rfl
        show Gives _ _ _ (.bool false) _
        refine Gives.val ?_
        go_simp
      cases ho
    case fin =>
      intro x hBx
      have hBf := HAl.out.trans (hBx.mono HAl.out.size)
      go_wp2_with fail
      go_ret
      exact ⟨retBool (by have hfl := HFN.out.1; first | (simp [endF, noSite, HFN.out.1, hs, ho]; done) | (simp [endF, noSite, HFN.out.1, hs, ho]; intros; omega) | (simp_all [endF, noSite]; done) | (simp_all [endF, noSite] <;> omega)), hBf⟩
  · by_cases e1 : n2 = 1
    · subst e1
      go_enter Try.func55, Try.ntmps55
      go_wp2_with fail
      go_ret
      exact ⟨retBool (by have hfl := HFN.out.1; first | (simp [endF, noSite, HFN.out.1, hs, ho]; done) | (simp [endF, noSite, HFN.out.1, hs, ho]; intros; omega) | (simp_all [endF, noSite]; done) | (simp_all [endF, noSite] <;> omega)), by first | exact (Below.refl _ _).alloc (Nat.le_refl _) _ | go_grown⟩
    · go_enter Try.func55, Try.ntmps55
      go_wp2_with fail
      all_goals
        go_ret
        exact ⟨retBool (by have hfl := HFN.out.1; first | (simp [endF, noSite, HFN.out.1, hs, ho, e1, e2, *]; done) | (simp [endF, noSite, HFN.out.1, hs, ho, e1, e2, *]; intros; omega) | (simp_all [endF, noSite]; done) | (simp_all [endF, noSite] <;> omega)), by first | exact (Below.refl _ _).alloc (Nat.le_refl _) _ | go_grown⟩

set_option maxRecDepth 100000 in
set_option maxHeartbeats 8000000 in
theorem endOk_S1G2 (x0 : World) (B : Nat) (v : Value) (P : List (List I4)) (h : ProgAt x0 B v P) (hok : progOkF P = true) (s : Value) (F : List Fr) (hF : FrsAt x0 s F) (hl5 : F.length ≤ 5) (n1 n2 n3 n4 n5 n6 : Int) (hs0 : n4 = 0) (hs : ¬ n5 = 0) (hg : 0 < F.length) (ho : n3 = 0) :
    Calls Try.prog 55 #[v, aggRun s (n1, n2, n3, n4, n5, n6)] x0 fun e y => e = .returned (.bool (endF P F n2 n3 (n4, n5, n6))) ∧ Below x0.heap.size x0 y := by
  obtain ⟨p, cap, rfl, _⟩ := h.shape
  obtain ⟨ps, cs, rfl, _⟩ := hF.shape
  unfold aggRun
  dsimp only
  have H : Hid (ProgAt x0 B (.slice p P.length cap) P) := h
  have HOK : Hid (progOkF P = true) := hok
  have HS : Hid (FrsAt x0 (.slice ps F.length cs) F) := hF
  have hl := progOkF_len hok
  have hn4 : (P.length : Int) ≤ 4 := by omega
  have hf5 : (F.length : Int) ≤ 5 := by omega
  clear h hok hF hl
  subst hs0
  have hsb : (n5 == 0) = false := by simpa using hs
  subst ho
  generalize hfn : F.length = fn at *
  generalize hpn : P.length = pn at *
  have HFN : Hid (F.length = fn ∧ P.length = pn) := ⟨hfn, hpn⟩
  clear hfn hpn
  have hgi : (0 : Int) < (fn : Int) := by omega
  by_cases e2 : n2 = 2
  · subst e2
    have HAl : Hid (Below x0.heap.size x0 (x0.alloc (.cells #[.slice ps fn cs, .int .i64 n1, .int .i64 2, .int .i64 0, .int .i64 0, .int .i64 n5, .int .i64 n6] 56))) := (Below.refl _ _).alloc (Nat.le_refl _) _
    have K00 : Hid (BxN (x0.alloc (.cells #[.slice ps fn cs, .int .i64 n1, .int .i64 2, .int .i64 0, .int .i64 0, .int .i64 n5, .int .i64 n6] 56)) x0.heap.size [.slice ps fn cs, .int .i64 n1, .int .i64 2, .int .i64 0, .int .i64 0, .int .i64 n5, .int .i64 n6]) := BxN.new x0 [_, _, _, _, _, _, _] _
    go_enter Try.func55, Try.ntmps55
    go_wp2_with fail
    generalize x0.alloc (.cells #[.slice ps fn cs, .int .i64 n1, .int .i64 2, .int .i64 0, .int .i64 0, .int .i64 n5, .int .i64 n6] 56) = X at HAl K00 ⊢
    cases hso : siteOkF P (0, n5, n6)
    · skip
      have HSO : Hid (∀ z : World, Below x0.heap.size x0 z → Calls Try.prog 80 #[.slice p pn cap, .agg #[.int .i64 0, .int .i64 n5, .int .i64 n6]] z fun e y => e = .returned (.bool false) ∧ Below z.heap.size z y) := fun z hz => by
        have := siteOk_any z B (.slice p pn cap) P (H.out.later hz) HOK.out (0, n5, n6)
        rw [hso] at this; exact this
      refine wp_region_vals (by kernel_rfl) (by kernel_rfl) (by kernel_rfl) (by kernel_rfl) (fun j => [.bool true, .bool true, .slice p pn cap, .pointer (some ⟨x0.heap.size, 4, none⟩), .agg #[.int .i64 0, .int .i64 n5, .int .i64 n6], .bool false, .bool false, .bool false, undef, undef, undef, undef, .bool false, .bool false].getD j undef) X (Below.drew (Below.refl _ _)) ?step ⟨#[.slice p pn cap, .agg #[.slice ps fn cs, .int .i64 n1, .int .i64 2, .int .i64 0, .int .i64 0, .int .i64 n5, .int .i64 n6], undef, .pointer (some ⟨x0.heap.size, 0, none⟩), .bool false, .bool true, .bool false, .pointer (some ⟨x0.heap.size, 0, none⟩), .slice ps fn cs, .int .i64 ↑fn, .bool true, .bool true, .pointer (some ⟨x0.heap.size, 3, none⟩), .int .i64 0, .bool true, .bool true, .pointer (some ⟨x0.heap.size, 4, none⟩), .agg #[.int .i64 0, .int .i64 n5, .int .i64 n6], .agg #[.int .i64 0, .int .i64 0, .int .i64 0], .bool false, .pointer (some ⟨x0.heap.size, 2, none⟩), .int .i64 2, .bool false, .bool false, undef, undef, undef, undef, .bool false, .bool false, undef, undef, undef, undef, undef, undef, undef, undef, undef, undef, undef, undef, .bool true, .bool true, .bool true, .bool true, .slice p pn cap, .pointer (some ⟨x0.heap.size, 4, none⟩), .agg #[.int .i64 0, .int .i64 n5, .int .i64 n6], .bool false, .bool false, .bool false, undef, undef, undef, undef, .bool false, undef, undef, undef, undef, undef, undef, undef, undef, undef, undef, undef, undef], []⟩ (by kernel_rfl) ?fin
      case step =>
        intro i o ho ρ y x hBx hdep hout
        rcases i with _ | i
        · obtain rfl := Option.some.inj ho
          have o5 : ρ (.tmp 5) = .bool true := hout (.tmp 5) rfl
          have ocn : ∀ v, ρ (.const v) = v := fun v => hout (.const v) rfl
          have ofn : ∀ f, ρ (.func f) = .func (.func f) #[] #[] := fun f => hout (.func f) rfl
          clear hdep hout
          refine .inl ⟨?_, ?_⟩
          · rfl
          show Gives _ _ _ (.bool true) _
          refine Gives.val ?_
          go_simp
        rcases i with _ | i
        · obtain rfl := Option.some.inj ho
          have e0 : ρ (.tmp 44) = .bool true := (hdep ⟨0, .data⟩ (by simp) rfl).1 44 rfl
          have ocn : ∀ v, ρ (.const v) = v := fun v => hout (.const v) rfl
          have ofn : ∀ f, ρ (.func f) = .func (.func f) #[] #[] := fun f => hout (.func f) rfl
          clear hdep hout
          refine .inl ⟨?_, ?_⟩
          · rfl
          show Gives _ _ _ (.bool true) _
          refine Gives.val ?_
          go_simp
        rcases i with _ | i
        · obtain rfl := Option.some.inj ho
          have o0 : ρ (.tmp 0) = .slice p pn cap := hout (.tmp 0) rfl
          have yg : y 1 = some true := (hdep ⟨1, .guard⟩ (by simp) rfl).2 45 rfl
          have ocn : ∀ v, ρ (.const v) = v := fun v => hout (.const v) rfl
          have ofn : ∀ f, ρ (.func f) = .func (.func f) #[] #[] := fun f => hout (.func f) rfl
          clear hdep hout
          refine .inl ⟨?_, ?_⟩
          · show (y 1 == some true) = true
            rw [yg]; rfl
          show Gives _ _ _ (.slice p pn cap) _
          refine Gives.val ?_
          go_simp
        rcases i with _ | i
        · obtain rfl := Option.some.inj ho
          have o3 : ρ (.tmp 3) = .pointer (some ⟨x0.heap.size, 0, none⟩) := hout (.tmp 3) rfl
          have yg : y 1 = some true := (hdep ⟨1, .guard⟩ (by simp) rfl).2 45 rfl
          have ocn : ∀ v, ρ (.const v) = v := fun v => hout (.const v) rfl
          have ofn : ∀ f, ρ (.func f) = .func (.func f) #[] #[] := fun f => hout (.func f) rfl
          clear hdep hout
          refine .inl ⟨?_, ?_⟩
          · show (y 1 == some true) = true
            rw [yg]; rfl
          show Gives _ _ _ (.pointer (some ⟨x0.heap.size, 4, none⟩)) _
          refine Gives.val ?_
          go_simp
        rcases i with _ | i
        · obtain rfl := Option.some.inj ho
          have e3 : ρ (.tmp 47) = .pointer (some ⟨x0.heap.size, 4, none⟩) := (hdep ⟨3, .data⟩ (by simp) rfl).1 47 rfl
          have yg : y 1 = some true := (hdep ⟨1, .guard⟩ (by simp) rfl).2 45 rfl
          have ocn : ∀ v, ρ (.const v) = v := fun v => hout (.const v) rfl
          have ofn : ∀ f, ρ (.func f) = .func (.func f) #[] #[] := fun f => hout (.func f) rfl
          clear hdep hout
          refine .inl ⟨?_, ?_⟩
          · show (y 1 == some true) = true
            rw [yg]; rfl
          have kb := K00.out.later hBx
          have c0 := kb.c 0 _ rfl
          have c3 := kb.c 3 _ rfl
          have c4 := kb.c 4 _ rfl
          have c5 := kb.c 5 _ rfl
          have c6 := kb.c 6 _ rfl
          have cl0 := kb.lt
          show Gives _ _ _ (.agg #[.int .i64 0, .int .i64 n5, .int .i64 n6]) _
          refine Gives.val ?_
          go_simp
        rcases i with _ | i
        · obtain rfl := Option.some.inj ho
          have e2 : ρ (.tmp 46) = .slice p pn cap := (hdep ⟨2, .data⟩ (by simp) rfl).1 46 rfl
          have e4 : ρ (.tmp 48) = .agg #[.int .i64 0, .int .i64 n5, .int .i64 n6] := (hdep ⟨4, .data⟩ (by simp) rfl).1 48 rfl
          have yg : y 1 = some true := (hdep ⟨1, .guard⟩ (by simp) rfl).2 45 rfl
          have ocn : ∀ v, ρ (.const v) = v := fun v => hout (.const v) rfl
          have ofn : ∀ f, ρ (.func f) = .func (.func f) #[] #[] := fun f => hout (.func f) rfl
          clear hdep hout
          refine .inl ⟨?_, ?_⟩
          · show (y 1 == some true) = true
            rw [yg]; rfl
          show Gives _ _ _ (.bool false) _
          refine Gives.call (HSO.out x (HAl.out.trans (hBx.mono HAl.out.size))) ?_
          go_simp
        rcases i with _ | i
        · obtain rfl := Option.some.inj ho
          have e1 : ρ (.tmp 45) = .bool true := (hdep ⟨1, .data⟩ (by simp) rfl).1 45 rfl
          have e5 : ρ (.tmp 49) = .bool false := (hdep ⟨5, .data⟩ (by simp) rfl).1 49 rfl
          have ocn : ∀ v, ρ (.const v) = v := fun v => hout (.const v) rfl
          have ofn : ∀ f, ρ (.func f) = .func (.func f) #[] #[] := fun f => hout (.func f) rfl
          clear hdep hout
          refine .inl ⟨?_, ?_⟩
          · rfl
          show Gives _ _ _ (.bool false) _
          refine Gives.val ?_
          go_simp
        rcases i with _ | i
        · obtain rfl := Option.some.inj ho
          have e6 : ρ (.tmp 50) = .bool false := (hdep ⟨6, .data⟩ (by simp) rfl).1 50 rfl
          have ocn : ∀ v, ρ (.const v) = v := fun v => hout (.const v) rfl
          have ofn : ∀ f, ρ (.func f) = .func (.func f) #[] #[] := fun f => hout (.func f) rfl
          clear hdep hout
          refine .inl ⟨?_, ?_⟩
          · rfl
          show Gives _ _ _ (.bool false) _
          refine Gives.val ?_
          go_simp
        rcases i with _ | i
        · obtain rfl := Option.some.inj ho
          have o3 : ρ (.tmp 3) = .pointer (some ⟨x0.heap.size, 0, none⟩) := hout (.tmp 3) rfl
          have yg : y 7 = some false := (hdep ⟨7, .guard⟩ (by simp) rfl).2 51 rfl
          have ocn : ∀ v, ρ (.const v) = v := fun v => hout (.const v) rfl
          have ofn : ∀ f, ρ (.func f) = .func (.func f) #[] #[] := fun f => hout (.func f) rfl
          clear hdep hout
          refine .inr ⟨?_, rfl⟩
          show (y 7 == some true) = false
          rw [yg]; rfl
        rcases i with _ | i
        · obtain rfl := Option.some.inj ho
          have e8 : ρ (.tmp 52) = undef := (hdep ⟨8, .data⟩ (by simp) rfl).1 52 rfl
          have yg : y 7 = some false := (hdep ⟨7, .guard⟩ (by simp) rfl).2 51 rfl
          have ocn : ∀ v, ρ (.const v) = v := fun v => hout (.const v) rfl
          have ofn : ∀ f, ρ (.func f) = .func (.func f) #[] #[] := fun f => hout (.func f) rfl
          clear hdep hout
          refine .inr ⟨?_, rfl⟩
          show (y 7 == some true) = false
          rw [yg]; rfl
        rcases i with _ | i
        · obtain rfl := Option.some.inj ho
          have o3 : ρ (.tmp 3) = .pointer (some ⟨x0.heap.size, 0, none⟩) := hout (.tmp 3) rfl
          have yg : y 7 = some false := (hdep ⟨7, .guard⟩ (by simp) rfl).2 51 rfl
          have ocn : ∀ v, ρ (.const v) = v := fun v => hout (.const v) rfl
          have ofn : ∀ f, ρ (.func f) = .func (.func f) #[] #[] := fun f => hout (.func f) rfl
          clear hdep hout
          refine .inr ⟨?_, rfl⟩
          show (y 7 == some true) = false
          rw [yg]; rfl
        rcases i with _ | i
        · obtain rfl := Option.some.inj ho
          have e9 : ρ (.tmp 53) = undef := (hdep ⟨9, .data⟩ (by simp) rfl).1 53 rfl
          have e10 : ρ (.tmp 54) = undef := (hdep ⟨10, .data⟩ (by simp) rfl).1 54 rfl
          have yg : y 7 = some false := (hdep ⟨7, .guard⟩ (by simp) rfl).2 51 rfl
          have ocn : ∀ v, ρ (.const v) = v := fun v => hout (.const v) rfl
          have ofn : ∀ f, ρ (.func f) = .func (.func f) #[] #[] := fun f => hout (.func f) rfl
          clear hdep hout
          refine .inr ⟨?_, rfl⟩
          show (y 7 == some true) = false
          rw [yg]; rfl
        rcases i with _ | i
        · obtain rfl := Option.some.inj ho
          have e7 : ρ (.tmp 51) = .bool false := (hdep ⟨7, .data⟩ (by simp) rfl).1 51 rfl
          have e11 : ρ (.tmp 55) = undef := (hdep ⟨11, .data⟩ (by simp) rfl).1 55 rfl
          have ocn : ∀ v, ρ (.const v) = v := fun v => hout (.const v) rfl
          have ofn : ∀ f, ρ (.func f) = .func (.func f) #[] #[] := fun f => hout (.func f) rfl
          clear hdep hout
          refine .inl ⟨?_, ?_⟩
          · rfl
          show Gives _ _ _ (.bool false) _
          refine Gives.val ?_
          go_simp
        rcases i with _ | i
        · obtain rfl := Option.some.inj ho
          have e12 : ρ (.tmp 56) = .bool false := (hdep ⟨12, .data⟩ (by simp) rfl).1 56 rfl
          have ocn : ∀ v, ρ (.const v) = v := fun v => hout (.const v) rfl
          have ofn : ∀ f, ρ (.func f) = .func (.func f) #[] #[] := fun f => hout (.func f) rfl
          clear hdep hout
          refine .inl ⟨?_, ?_⟩
          · rfl
          show Gives _ _ _ (.bool false) _
          refine Gives.val ?_
          go_simp
        cases ho
      case fin =>
        intro x hBx
        have hBf := HAl.out.trans (hBx.mono HAl.out.size)
        go_wp2_with fail
        go_ret
        exact ⟨retBool (by have hfl := HFN.out.1; first | (simp [endF, noSite, HFN.out.1, hs, hg, hso]; done) | (simp [endF, noSite, HFN.out.1, hs, hg, hso]; intros; omega) | (simp_all [endF, noSite]; done) | (simp_all [endF, noSite] <;> omega)), hBf⟩
    · skip
      have HSO : Hid (∀ z : World, Below x0.heap.size x0 z → Calls Try.prog 80 #[.slice p pn cap, .agg #[.int .i64 0, .int .i64 n5, .int .i64 n6]] z fun e y => e = .returned (.bool true) ∧ Below z.heap.size z y) := fun z hz => by
        have := siteOk_any z B (.slice p pn cap) P (H.out.later hz) HOK.out (0, n5, n6)
        rw [hso] at this; exact this
      obtain ⟨g, o, hp, hgx, hfr⟩ := FrsAt.frame (p := ps) (cap := cs) (F := F) (j := F.length - 1) (by have := HS.out; rw [← HFN.out.1] at this; exact this) (by rw [HFN.out.1]; omega)
      subst hp
      have HT : Hid ((F.getD (F.length - 1) fr0) = topF F) := rfl
      rw [HT.out] at hfr
      rw [HFN.out.1] at hfr
      have t0 := hfr.c0
      have t2 := hfr.c2
      have HTP : Hid (∀ z : World, Below X.heap.size X z → Calls Try.prog 82 #[.pointer (some ⟨x0.heap.size, 0, none⟩)] z fun e y => e = .returned (.pointer (some ⟨g, o + (fn - 1) * 6, none⟩)) ∧ Below z.heap.size z y) := fun z hz => by
        have kb := K00.out.later hz
        exact top_any z x0.heap.size g o fn cs (kb.c 0 _ rfl) hg (by have := HFN.out.1; omega) kb.lt (Nat.lt_of_lt_of_le hgx (HAl.out.trans (hz.mono HAl.out.size)).size)
      have HIS : Hid (∀ z : World, Below X.heap.size X z → Calls Try.prog 81 #[.agg #[.int .i64 0, .int .i64 n5, .int .i64 n6], .pointer (some ⟨g, o + (fn - 1) * 6, none⟩)] z fun e y => e = .returned (.bool (decide (0 = (topF F).p) && decide (n5 = (topF F).t))) ∧ Below z.heap.size z y) := fun z hz => by
        have hbz := HAl.out.trans (hz.mono HAl.out.size)
        exact isOf_any z g (o + (fn - 1) * 6) (topF F).p (topF F).t (0, n5, n6) ((hbz.cell (p := ⟨g, _, none⟩) hgx).trans t0) ((hbz.cell (p := ⟨g, _, none⟩) hgx).trans t2) (Nat.lt_of_lt_of_le hgx hbz.size)
      refine wp_region_vals (by kernel_rfl) (by kernel_rfl) (by kernel_rfl) (by kernel_rfl) (fun j => [.bool true, .bool true, .slice p pn cap, .pointer (some ⟨x0.heap.size, 4, none⟩), .agg #[.int .i64 0, .int .i64 n5, .int .i64 n6], .bool true, .bool true, .bool true, .pointer (some ⟨x0.heap.size, 4, none⟩), .agg #[.int .i64 0, .int .i64 n5, .int .i64 n6], .pointer (some ⟨g, o + (fn - 1) * 6, none⟩), .bool (decide (0 = (topF F).p) && decide (n5 = (topF F).t)), .bool (decide (0 = (topF F).p) && decide (n5 = (topF F).t)), .bool (decide (0 = (topF F).p) && decide (n5 = (topF F).t))].getD j undef) X (Below.drew (Below.refl _ _)) ?step ⟨#[.slice p pn cap, .agg #[.slice (some ⟨g, o, none⟩) fn cs, .int .i64 n1, .int .i64 2, .int .i64 0, .int .i64 0, .int .i64 n5, .int .i64 n6], undef, .pointer (some ⟨x0.heap.size, 0, none⟩), .bool (decide (0 = (topF F).p) && decide (n5 = (topF F).t)), .bool true, .bool false, .pointer (some ⟨x0.heap.size, 0, none⟩), .slice (some ⟨g, o, none⟩) fn cs, .int .i64 ↑fn, .bool true, .bool true, .pointer (some ⟨x0.heap.size, 3, none⟩), .int .i64 0, .bool true, .bool true, .pointer (some ⟨x0.heap.size, 4, none⟩), .agg #[.int .i64 0, .int .i64 n5, .int .i64 n6], .agg #[.int .i64 0, .int .i64 0, .int .i64 0], .bool false, .pointer (some ⟨x0.heap.size, 2, none⟩), .int .i64 2, .bool false, .bool false, undef, undef, undef, undef, .bool false, .bool false, undef, undef, undef, undef, undef, undef, undef, undef, undef, undef, undef, undef, .bool true, .bool true, .bool true, .bool true, .slice p pn cap, .pointer (some ⟨x0.heap.size, 4, none⟩), .agg #[.int .i64 0, .int .i64 n5, .int .i64 n6], .bool true, .bool true, .bool true, .pointer (some ⟨x0.heap.size, 4, none⟩), .agg #[.int .i64 0, .int .i64 n5, .int .i64 n6], .pointer (some ⟨g, o + (fn - 1) * 6, none⟩), .bool (decide (0 = (topF F).p) && decide (n5 = (topF F).t)), .bool (decide (0 = (topF F).p) && decide (n5 = (topF F).t)), undef, undef, undef, undef, undef, undef, undef, undef, undef, undef, undef, undef], []⟩ (by kernel_rfl) ?fin
      case step =>
        intro i o ho ρ y x hBx hdep hout
        rcases i with _ | i
        · obtain rfl := Option.some.inj ho
          have o5 : ρ (.tmp 5) = .bool true := hout (.tmp 5) rfl
          have ocn : ∀ v, ρ (.const v) = v := fun v => hout (.const v) rfl
          have ofn : ∀ f, ρ (.func f) = .func (.func f) #[] #[] := fun f => hout (.func f) rfl
          clear hdep hout
          refine .inl ⟨?_, ?_⟩
          · rfl
          show Gives _ _ _ (.bool true) _
          refine Gives.val ?_
          go_simp
        rcases i with _ | i
        · obtain rfl := Option.some.inj ho
          have e0 : ρ (.tmp 44) = .bool true := (hdep ⟨0, .data⟩ (by simp) rfl).1 44 rfl
          have ocn : ∀ v, ρ (.const v) = v := fun v => hout (.const v) rfl
          have ofn : ∀ f, ρ (.func f) = .func (.func f) #[] #[] := fun f => hout (.func f) rfl
          clear hdep hout
          refine .inl ⟨?_, ?_⟩
          · rfl
          show Gives _ _ _ (.bool true) _
          refine Gives.val ?_
          go_simp
        rcases i with _ | i
        · obtain rfl := Option.some.inj ho
          have o0 : ρ (.tmp 0) = .slice p pn cap := hout (.tmp 0) rfl
          have yg : y 1 = some true := (hdep ⟨1, .guard⟩ (by simp) rfl).2 45 rfl
          have ocn : ∀ v, ρ (.const v) = v := fun v => hout (.const v) rfl
          have ofn : ∀ f, ρ (.func f) = .func (.func f) #[] #[] := fun f => hout (.func f) rfl
          clear hdep hout
          refine .inl ⟨?_, ?_⟩
          · show (y 1 == some true) = true
            rw [yg]; rfl
          show Gives _ _ _ (.slice p pn cap) _
          refine Gives.val ?_
          go_simp
        rcases i with _ | i
        · obtain rfl := Option.some.inj ho
          have o3 : ρ (.tmp 3) = .pointer (some ⟨x0.heap.size, 0, none⟩) := hout (.tmp 3) rfl
          have yg : y 1 = some true := (hdep ⟨1, .guard⟩ (by simp) rfl).2 45 rfl
          have ocn : ∀ v, ρ (.const v) = v := fun v => hout (.const v) rfl
          have ofn : ∀ f, ρ (.func f) = .func (.func f) #[] #[] := fun f => hout (.func f) rfl
          clear hdep hout
          refine .inl ⟨?_, ?_⟩
          · show (y 1 == some true) = true
            rw [yg]; rfl
          show Gives _ _ _ (.pointer (some ⟨x0.heap.size, 4, none⟩)) _
          refine Gives.val ?_
          go_simp
        rcases i with _ | i
        · obtain rfl := Option.some.inj ho
          have e3 : ρ (.tmp 47) = .pointer (some ⟨x0.heap.size, 4, none⟩) := (hdep ⟨3, .data⟩ (by simp) rfl).1 47 rfl
          have yg : y 1 = some true := (hdep ⟨1, .guard⟩ (by simp) rfl).2 45 rfl
          have ocn : ∀ v, ρ (.const v) = v := fun v => hout (.const v) rfl
          have ofn : ∀ f, ρ (.func f) = .func (.func f) #[] #[] := fun f => hout (.func f) rfl
          clear hdep hout
          refine .inl ⟨?_, ?_⟩
          · show (y 1 == some true) = true
            rw [yg]; rfl
          have kb := K00.out.later hBx
          have c0 := kb.c 0 _ rfl
          have c3 := kb.c 3 _ rfl
          have c4 := kb.c 4 _ rfl
          have c5 := kb.c 5 _ rfl
          have c6 := kb.c 6 _ rfl
          have cl0 := kb.lt
          show Gives _ _ _ (.agg #[.int .i64 0, .int .i64 n5, .int .i64 n6]) _
          refine Gives.val ?_
          go_simp
        rcases i with _ | i
        · obtain rfl := Option.some.inj ho
          have e2 : ρ (.tmp 46) = .slice p pn cap := (hdep ⟨2, .data⟩ (by simp) rfl).1 46 rfl
          have e4 : ρ (.tmp 48) = .agg #[.int .i64 0, .int .i64 n5, .int .i64 n6] := (hdep ⟨4, .data⟩ (by simp) rfl).1 48 rfl
          have yg : y 1 = some true := (hdep ⟨1, .guard⟩ (by simp) rfl).2 45 rfl
          have ocn : ∀ v, ρ (.const v) = v := fun v => hout (.const v) rfl
          have ofn : ∀ f, ρ (.func f) = .func (.func f) #[] #[] := fun f => hout (.func f) rfl
          clear hdep hout
          refine .inl ⟨?_, ?_⟩
          · show (y 1 == some true) = true
            rw [yg]; rfl
          show Gives _ _ _ (.bool true) _
          refine Gives.call (HSO.out x (HAl.out.trans (hBx.mono HAl.out.size))) ?_
          go_simp
        rcases i with _ | i
        · obtain rfl := Option.some.inj ho
          have e1 : ρ (.tmp 45) = .bool true := (hdep ⟨1, .data⟩ (by simp) rfl).1 45 rfl
          have e5 : ρ (.tmp 49) = .bool true := (hdep ⟨5, .data⟩ (by simp) rfl).1 49 rfl
          have ocn : ∀ v, ρ (.const v) = v := fun v => hout (.const v) rfl
          have ofn : ∀ f, ρ (.func f) = .func (.func f) #[] #[] := fun f => hout (.func f) rfl
          clear hdep hout
          refine .inl ⟨?_, ?_⟩
          · rfl
          show Gives _ _ _ (.bool true) _
          refine Gives.val ?_
          go_simp
        rcases i with _ | i
        · obtain rfl := Option.some.inj ho
          have e6 : ρ (.tmp 50) = .bool true := (hdep ⟨6, .data⟩ (by simp) rfl).1 50 rfl
          have ocn : ∀ v, ρ (.const v) = v := fun v => hout (.const v) rfl
          have ofn : ∀ f, ρ (.func f) = .func (.func f) #[] #[] := fun f => hout (.func f) rfl
          clear hdep hout
          refine .inl ⟨?_, ?_⟩
          · rfl
          show Gives _ _ _ (.bool true) _
          refine Gives.val ?_
          go_simp
        rcases i with _ | i
        · obtain rfl := Option.some.inj ho
          have o3 : ρ (.tmp 3) = .pointer (some ⟨x0.heap.size, 0, none⟩) := hout (.tmp 3) rfl
          have yg : y 7 = some true := (hdep ⟨7, .guard⟩ (by simp) rfl).2 51 rfl
          have ocn : ∀ v, ρ (.const v) = v := fun v => hout (.const v) rfl
          have ofn : ∀ f, ρ (.func f) = .func (.func f) #[] #[] := fun f => hout (.func f) rfl
          clear hdep hout
          refine .inl ⟨?_, ?_⟩
          · show (y 7 == some true) = true
            rw [yg]; rfl
          show Gives _ _ _ (.pointer (some ⟨x0.heap.size, 4, none⟩)) _
          refine Gives.val ?_
          go_simp
        rcases i with _ | i
        · obtain rfl := Option.some.inj ho
          have e8 : ρ (.tmp 52) = .pointer (some ⟨x0.heap.size, 4, none⟩) := (hdep ⟨8, .data⟩ (by simp) rfl).1 52 rfl
          have yg : y 7 = some true := (hdep ⟨7, .guard⟩ (by simp) rfl).2 51 rfl
          have ocn : ∀ v, ρ (.const v) = v := fun v => hout (.const v) rfl
          have ofn : ∀ f, ρ (.func f) = .func (.func f) #[] #[] := fun f => hout (.func f) rfl
          clear hdep hout
          refine .inl ⟨?_, ?_⟩
          · show (y 7 == some true) = true
            rw [yg]; rfl
          have kb := K00.out.later hBx
          have c0 := kb.c 0 _ rfl
          have c3 := kb.c 3 _ rfl
          have c4 := kb.c 4 _ rfl
          have c5 := kb.c 5 _ rfl
          have c6 := kb.c 6 _ rfl
          have cl0 := kb.lt
          show Gives _ _ _ (.agg #[.int .i64 0, .int .i64 n5, .int .i64 n6]) _
          refine Gives.val ?_
          go_simp
        rcases i with _ | i
        · obtain rfl := Option.some.inj ho
          have o3 : ρ (.tmp 3) = .pointer (some ⟨x0.heap.size, 0, none⟩) := hout (.tmp 3) rfl
          have yg : y 7 = some true := (hdep ⟨7, .guard⟩ (by simp) rfl).2 51 rfl
          have ocn : ∀ v, ρ (.const v) = v := fun v => hout (.const v) rfl
          have ofn : ∀ f, ρ (.func f) = .func (.func f) #[] #[] := fun f => hout (.func f) rfl
          clear hdep hout
          refine .inl ⟨?_, ?_⟩
          · show (y 7 == some true) = true
            rw [yg]; rfl
          show Gives _ _ _ (.pointer (some ⟨g, o + (fn - 1) * 6, none⟩)) _
          refine Gives.call (HTP.out x hBx) ?_
          go_simp
        rcases i with _ | i
        · obtain rfl := Option.some.inj ho
          have e9 : ρ (.tmp 53) = .agg #[.int .i64 0, .int .i64 n5, .int .i64 n6] := (hdep ⟨9, .data⟩ (by simp) rfl).1 53 rfl
          have e10 : ρ (.tmp 54) = .pointer (some ⟨g, o + (fn - 1) * 6, none⟩) := (hdep ⟨10, .data⟩ (by simp) rfl).1 54 rfl
          have yg : y 7 = some true := (hdep ⟨7, .guard⟩ (by simp) rfl).2 51 rfl
          have ocn : ∀ v, ρ (.const v) = v := fun v => hout (.const v) rfl
          have ofn : ∀ f, ρ (.func f) = .func (.func f) #[] #[] := fun f => hout (.func f) rfl
          clear hdep hout
          refine .inl ⟨?_, ?_⟩
          · show (y 7 == some true) = true
            rw [yg]; rfl
          show Gives _ _ _ (.bool (decide (0 = (topF F).p) && decide (n5 = (topF F).t))) _
          refine Gives.call (HIS.out x hBx) ?_
          go_simp
        rcases i with _ | i
        · obtain rfl := Option.some.inj ho
          have e7 : ρ (.tmp 51) = .bool true := (hdep ⟨7, .data⟩ (by simp) rfl).1 51 rfl
          have e11 : ρ (.tmp 55) = .bool (decide (0 = (topF F).p) && decide (n5 = (topF F).t)) := (hdep ⟨11, .data⟩ (by simp) rfl).1 55 rfl
          have ocn : ∀ v, ρ (.const v) = v := fun v => hout (.const v) rfl
          have ofn : ∀ f, ρ (.func f) = .func (.func f) #[] #[] := fun f => hout (.func f) rfl
          clear hdep hout
          refine .inl ⟨?_, ?_⟩
          · rfl
          show Gives _ _ _ (.bool (decide (0 = (topF F).p) && decide (n5 = (topF F).t))) _
          refine Gives.val ?_
          go_simp
        rcases i with _ | i
        · obtain rfl := Option.some.inj ho
          have e12 : ρ (.tmp 56) = .bool (decide (0 = (topF F).p) && decide (n5 = (topF F).t)) := (hdep ⟨12, .data⟩ (by simp) rfl).1 56 rfl
          have ocn : ∀ v, ρ (.const v) = v := fun v => hout (.const v) rfl
          have ofn : ∀ f, ρ (.func f) = .func (.func f) #[] #[] := fun f => hout (.func f) rfl
          clear hdep hout
          refine .inl ⟨?_, ?_⟩
          · rfl
          show Gives _ _ _ (.bool (decide (0 = (topF F).p) && decide (n5 = (topF F).t))) _
          refine Gives.val ?_
          go_simp
        cases ho
      case fin =>
        intro x hBx
        have hBf := HAl.out.trans (hBx.mono HAl.out.size)
        go_wp2_with fail
        go_ret
        exact ⟨retBool (by have hfl := HFN.out.1; first | (simp [endF, noSite, HFN.out.1, hs, hg, hso]; done) | (simp [endF, noSite, HFN.out.1, hs, hg, hso]; intros; omega) | (simp_all [endF, noSite]; done) | (simp_all [endF, noSite] <;> omega)), hBf⟩
  · by_cases e1 : n2 = 1
    · subst e1
      go_enter Try.func55, Try.ntmps55
      go_wp2_with fail
      go_ret
      exact ⟨retBool (by have hfl := HFN.out.1; first | (simp [endF, noSite, HFN.out.1, hs, hg]; done) | (simp [endF, noSite, HFN.out.1, hs, hg]; intros; omega) | (simp_all [endF, noSite]; done) | (simp_all [endF, noSite] <;> omega)), by first | exact (Below.refl _ _).alloc (Nat.le_refl _) _ | go_grown⟩
    · go_enter Try.func55, Try.ntmps55
      go_wp2_with fail
      all_goals
        go_ret
        exact ⟨retBool (by have hfl := HFN.out.1; first | (simp [endF, noSite, HFN.out.1, hs, hg, e1, e2, *]; done) | (simp [endF, noSite, HFN.out.1, hs, hg, e1, e2, *]; intros; omega) | (simp_all [endF, noSite]; done) | (simp_all [endF, noSite] <;> omega)), by first | exact (Below.refl _ _).alloc (Nat.le_refl _) _ | go_grown⟩

set_option maxRecDepth 100000 in
set_option maxHeartbeats 8000000 in
theorem endOk_S2G0 (x0 : World) (B : Nat) (v : Value) (P : List (List I4)) (h : ProgAt x0 B v P) (hok : progOkF P = true) (s : Value) (F : List Fr) (hF : FrsAt x0 s F) (hl5 : F.length ≤ 5) (n1 n2 n3 n4 n5 n6 : Int) (hs0 : n4 = 0) (hs1 : n5 = 0) (hs : ¬ n6 = 0) (hg : F.length = 0) :
    Calls Try.prog 55 #[v, aggRun s (n1, n2, n3, n4, n5, n6)] x0 fun e y => e = .returned (.bool (endF P F n2 n3 (n4, n5, n6))) ∧ Below x0.heap.size x0 y := by
  obtain ⟨p, cap, rfl, _⟩ := h.shape
  obtain ⟨ps, cs, rfl, _⟩ := hF.shape
  unfold aggRun
  dsimp only
  have H : Hid (ProgAt x0 B (.slice p P.length cap) P) := h
  have HOK : Hid (progOkF P = true) := hok
  have HS : Hid (FrsAt x0 (.slice ps F.length cs) F) := hF
  have hl := progOkF_len hok
  have hn4 : (P.length : Int) ≤ 4 := by omega
  have hf5 : (F.length : Int) ≤ 5 := by omega
  clear h hok hF hl
  subst hs0
  subst hs1
  have hsb : (n6 == 0) = false := by simpa using hs
  generalize hfn : F.length = fn at *
  generalize hpn : P.length = pn at *
  have HFN : Hid (F.length = fn ∧ P.length = pn) := ⟨hfn, hpn⟩
  clear hfn hpn
  subst hg
  by_cases e2 : n2 = 2
  · subst e2
    have HAl : Hid (Below x0.heap.size x0 (x0.alloc (.cells #[.slice ps 0 cs, .int .i64 n1, .int .i64 2, .int .i64 n3, .int .i64 0, .int .i64 0, .int .i64 n6] 56))) := (Below.refl _ _).alloc (Nat.le_refl _) _
    have K00 : Hid (BxN (x0.alloc (.cells #[.slice ps 0 cs, .int .i64 n1, .int .i64 2, .int .i64 n3, .int .i64 0, .int .i64 0, .int .i64 n6] 56)) x0.heap.size [.slice ps 0 cs, .int .i64 n1, .int .i64 2, .int .i64 n3, .int .i64 0, .int .i64 0, .int .i64 n6]) := BxN.new x0 [_, _, _, _, _, _, _] _
    go_enter Try.func55, Try.ntmps55
    go_wp2_with fail
    generalize x0.alloc (.cells #[.slice ps 0 cs, .int .i64 n1, .int .i64 2, .int .i64 n3, .int .i64 0, .int .i64 0, .int .i64 n6] 56) = X at HAl K00 ⊢
    refine wp_region_vals (by kernel_rfl) (by kernel_rfl) (by kernel_rfl) (by kernel_rfl) (fun j => [.bool false, .bool false, undef, undef, undef, undef, .bool false, .bool false, undef, undef, undef, undef, .bool false, .bool false].getD j undef) X (Below.drew (Below.refl _ _)) ?step ⟨#[.slice p pn cap, .agg #[.slice ps 0 cs, .int .i64 n1, .int .i64 2, .int .i64 n3, .int .i64 0, .int .i64 0, .int .i64 n6], undef, .pointer (some ⟨x0.heap.size, 0, none⟩), .bool false, .bool false, .bool false, .pointer (some ⟨x0.heap.size, 0, none⟩), .slice ps 0 cs, .int .i64 0, .bool false, .bool false, undef, undef, undef, .bool false, .pointer (some ⟨x0.heap.size, 4, none⟩), .agg #[.int .i64 0, .int .i64 0, .int .i64 n6], .agg #[.int .i64 0, .int .i64 0, .int .i64 0], .bool false, .pointer (some ⟨x0.heap.size, 2, none⟩), .int .i64 2, .bool false, .bool false, undef, undef, undef, undef, .bool false, .bool false, undef, undef, undef, undef, undef, undef, undef, undef, undef, undef, undef, undef, .bool true, .bool true, .bool false, .bool false, undef, undef, undef, undef, .bool false, .bool false, undef, undef, undef, undef, .bool false, undef, undef, undef, undef, undef, undef, undef, undef, undef, undef, undef, undef], []⟩ (by kernel_rfl) ?fin
    case step =>
      intro i o ho ρ y x hBx hdep hout
      rcases i with _ | i
      · obtain rfl := Option.some.inj ho
        have o5 : ρ (.tmp 5) = .bool false := hout (.tmp 5) rfl
        have ocn : ∀ v, ρ (.const v) = v := fun v => hout (.const v) rfl
        have ofn : ∀ f, ρ (.func f) = .func (.func f) #[] #[] := fun f => hout (.func f) rfl
        clear hdep hout
        refine .inl ⟨?_, ?_⟩
        · rfl
        show Gives _ _ _ (.bool false) _
        refine Gives.val ?_
        go_simp
      rcases i with _ | i
      · obtain rfl := Option.some.inj ho
        have e0 : ρ (.tmp 44) = .bool false := (hdep ⟨0, .data⟩ (by simp) rfl).1 44 rfl
        have ocn : ∀ v, ρ (.const v) = v := fun v => hout (.const v) rfl
        have ofn : ∀ f, ρ (.func f) = .func (.func f) #[] #[] := fun f => hout (.func f) rfl
        clear hdep hout
        refine .inl ⟨?_, ?_⟩
        · rfl
        show Gives _ _ _ (.bool false) _
        refine Gives.val ?_
        go_simp
      rcases i with _ | i
      · obtain rfl := Option.some.inj ho
        have o0 : ρ (.tmp 0) = .slice p pn cap := hout (.tmp 0) rfl
        have yg : y 1 = some false := (hdep ⟨1, .guard⟩ (by simp) rfl).2 45 rfl
        have ocn : ∀ v, ρ (.const v) = v := fun v => hout (.const v) rfl
        have ofn : ∀ f, ρ (.func f) = .func (.func f) #[] #[] := fun f => hout (.func f) rfl
        clear hdep hout
        refine .inr ⟨?_, rfl⟩
        show (y 1 == some true) = false
        rw [yg]; rfl
      rcases i with _ | i
      · obtain rfl := Option.some.inj ho
        have o3 : ρ (.tmp 3) = .pointer (some ⟨x0.heap.size, 0, none⟩) := hout (.tmp 3) rfl
        have yg : y 1 = some false := (hdep ⟨1, .guard⟩ (by simp) rfl).2 45 rfl
        have ocn : ∀ v, ρ (.const v) = v := fun v => hout (.const v) rfl
        have ofn : ∀ f, ρ (.func f) = .func (.func f) #[] #[] := fun f => hout (.func f) rfl
        clear hdep hout
        refine .inr ⟨?_, rfl⟩
        show (y 1 == some true) = false
        rw [yg]; rfl
      rcases i with _ | i
      · obtain rfl := Option.some.inj ho
        have e3 : ρ (.tmp 47) = undef := (hdep ⟨3, .data⟩ (by simp) rfl).1 47 rfl
        have yg : y 1 = some false := (hdep ⟨1, .guard⟩ (by simp) rfl).2 45 rfl
        have ocn : ∀ v, ρ (.const v) = v := fun v => hout (.const v) rfl
        have ofn : ∀ f, ρ (.func f) = .func (.func f) #[] #[] := fun f => hout (.func f) rfl
        clear hdep hout
        refine .inr ⟨?_, rfl⟩
        show (y 1 == some true) = false
        rw [yg]; rfl
      rcases i with _ | i
      · obtain rfl := Option.some.inj ho
        have e2 : ρ (.tmp 46) = undef := (hdep ⟨2, .data⟩ (by simp) rfl).1 46 rfl
        have e4 : ρ (.tmp 48) = undef := (hdep ⟨4, .data⟩ (by simp) rfl).1 48 rfl
        have yg : y 1 = some false := (hdep ⟨1, .guard⟩ (by simp) rfl).2 45 rfl
        have ocn : ∀ v, ρ (.const v) = v := fun v => hout (.const v) rfl
        have ofn : ∀ f, ρ (.func f) = .func (.func f) #[] #[] := fun f => hout (.func f) rfl
        clear hdep hout
        refine .inr ⟨?_, rfl⟩
        show (y 1 == some true) = false
        rw [yg]; rfl
      rcases i with _ | i
      · obtain rfl := Option.some.inj ho
        have e1 : ρ (.tmp 45) = .bool false := (hdep ⟨1, .data⟩ (by simp) rfl).1 45 rfl
        have e5 : ρ (.tmp 49) = undef := (hdep ⟨5, .data⟩ (by simp) rfl).1 49 rfl
        have ocn : ∀ v, ρ (.const v) = v := fun v => hout (.const v) rfl
        have ofn : ∀ f, ρ (.func f) = .func (.func f) #[] #[] := fun f => hout (.func f) rfl
        clear hdep hout
        refine .inl ⟨?_, ?_⟩
        · rfl
        show Gives _ _ _ (.bool false) _
        refine Gives.val ?_
        go_simp
      rcases i with _ | i
      · obtain rfl := Option.some.inj ho
        have e6 : ρ (.tmp 50) = .bool false := (hdep ⟨6, .data⟩ (by simp) rfl).1 50 rfl
        have ocn : ∀ v, ρ (.const v) = v := fun v => hout (.const v) rfl
        have ofn : ∀ f, ρ (.func f) = .func (.func f) #[] #[] := fun f => hout (.func f) rfl
        clear hdep hout
        refine .inl ⟨?_, ?_⟩
        · rfl
        show Gives _ _ _ (.bool false) _
        refine Gives.val ?_
        go_simp
      rcases i with _ | i
      · obtain rfl := Option.some.inj ho
        have o3 : ρ (.tmp 3) = .pointer (some ⟨x0.heap.size, 0, none⟩) := hout (.tmp 3) rfl
        have yg : y 7 = some false := (hdep ⟨7, .guard⟩ (by simp) rfl).2 51 rfl
        have ocn : ∀ v, ρ (.const v) = v := fun v => hout (.const v) rfl
        have ofn : ∀ f, ρ (.func f) = .func (.func f) #[] #[] := fun f => hout (.func f) rfl
        clear hdep hout
        refine .inr ⟨?_, rfl⟩
        show (y 7 == some true) = false
        rw [yg]; rfl
      rcases i with _ | i
      · obtain rfl := Option.some.inj ho
        have e8 : ρ (.tmp 52) = undef := (hdep ⟨8, .data⟩ (by simp) rfl).1 52 rfl
        have yg : y 7 = some false := (hdep ⟨7, .guard⟩ (by simp) rfl).2 51 rfl
        have ocn : ∀ v, ρ (.const v) = v := fun v => hout (.const v) rfl
        have ofn : ∀ f, ρ (.func f) = .func (.func f) #[] #[] := fun f => hout (.func f) rfl
        clear hdep hout
        refine .inr ⟨?_, rfl⟩
        show (y 7 == some true) = false
        rw [yg]; rfl
      rcases i with _ | i
      · obtain rfl := Option.some.inj ho
        have o3 : ρ (.tmp 3) = .pointer (some ⟨x0.heap.size, 0, none⟩) := hout (.tmp 3) rfl
        have yg : y 7 = some false := (hdep ⟨7, .guard⟩ (by simp) rfl).2 51 rfl
        have ocn : ∀ v, ρ (.const v) = v := fun v => hout (.const v) rfl
        have ofn : ∀ f, ρ (.func f) = .func (.func f) #[] #[] := fun f => hout (.func f) rfl
        clear hdep hout
        refine .inr ⟨?_, rfl⟩
        show (y 7 == some true) = false
        rw [yg]; rfl
      rcases i with _ | i
      · obtain rfl := Option.some.inj ho
        have e9 : ρ (.tmp 53) = undef := (hdep ⟨9, .data⟩ (by simp) rfl).1 53 rfl
        have e10 : ρ (.tmp 54) = undef := (hdep ⟨10, .data⟩ (by simp) rfl).1 54 rfl
        have yg : y 7 = some false := (hdep ⟨7, .guard⟩ (by simp) rfl).2 51 rfl
        have ocn : ∀ v, ρ (.const v) = v := fun v => hout (.const v) rfl
        have ofn : ∀ f, ρ (.func f) = .func (.func f) #[] #[] := fun f => hout (.func f) rfl
        clear hdep hout
        refine .inr ⟨?_, rfl⟩
        show (y 7 == some true) = false
        rw [yg]; rfl
      rcases i with _ | i
      · obtain rfl := Option.some.inj ho
        have e7 : ρ (.tmp 51) = .bool false := (hdep ⟨7, .data⟩ (by simp) rfl).1 51 rfl
        have e11 : ρ (.tmp 55) = undef := (hdep ⟨11, .data⟩ (by simp) rfl).1 55 rfl
        have ocn : ∀ v, ρ (.const v) = v := fun v => hout (.const v) rfl
        have ofn : ∀ f, ρ (.func f) = .func (.func f) #[] #[] := fun f => hout (.func f) rfl
        clear hdep hout
        refine .inl ⟨?_, ?_⟩
        · rfl
        show Gives _ _ _ (.bool false) _
        refine Gives.val ?_
        go_simp
      rcases i with _ | i
      · obtain rfl := Option.some.inj ho
        have e12 : ρ (.tmp 56) = .bool false := (hdep ⟨12, .data⟩ (by simp) rfl).1 56 rfl
        have ocn : ∀ v, ρ (.const v) = v := fun v => hout (.const v) rfl
        have ofn : ∀ f, ρ (.func f) = .func (.func f) #[] #[] := fun f => hout (.func f) rfl
        clear hdep hout
        refine .inl ⟨?_, ?_⟩
        · rfl
        show Gives _ _ _ (.bool false) _
        refine Gives.val ?_
        go_simp
      cases ho
    case fin =>
      intro x hBx
      have hBf := HAl.out.trans (hBx.mono HAl.out.size)
      go_wp2_with fail
      go_ret
      exact ⟨retBool (by have hfl := HFN.out.1; first | (simp [endF, noSite, HFN.out.1, hs]; done) | (simp [endF, noSite, HFN.out.1, hs]; intros; omega) | (simp_all [endF, noSite]; done) | (simp_all [endF, noSite] <;> omega)), hBf⟩
  · by_cases e1 : n2 = 1
    · subst e1
      go_enter Try.func55, Try.ntmps55
      go_wp2_with fail
      refine (isWord_e n3 _).mono ?_
      rintro e z ⟨rfl, rfl⟩
      cases hw : inI n3 (-16) 15
      all_goals
        go_wp2_with fail
        go_ret
        exact ⟨retBool (by have hfl := HFN.out.1; first | (simp [endF, noSite, HFN.out.1, hs, wdF, hw]; done) | (simp [endF, noSite, HFN.out.1, hs, wdF, hw]; intros; omega) | (simp_all [endF, noSite]; done) | (simp_all [endF, noSite] <;> omega)), by first | exact (Below.refl _ _).alloc (Nat.le_refl _) _ | go_grown⟩
    · go_enter Try.func55, Try.ntmps55
      go_wp2_with fail
      all_goals
        go_ret
        exact ⟨retBool (by have hfl := HFN.out.1; first | (simp [endF, noSite, HFN.out.1, hs, e1, e2, *]; done) | (simp [endF, noSite, HFN.out.1, hs, e1, e2, *]; intros; omega) | (simp_all [endF, noSite]; done) | (simp_all [endF, noSite] <;> omega)), by first | exact (Below.refl _ _).alloc (Nat.le_refl _) _ | go_grown⟩

set_option maxRecDepth 100000 in
set_option maxHeartbeats 8000000 in
theorem endOk_S2G1 (x0 : World) (B : Nat) (v : Value) (P : List (List I4)) (h : ProgAt x0 B v P) (hok : progOkF P = true) (s : Value) (F : List Fr) (hF : FrsAt x0 s F) (hl5 : F.length ≤ 5) (n1 n2 n3 n4 n5 n6 : Int) (hs0 : n4 = 0) (hs1 : n5 = 0) (hs : ¬ n6 = 0) (hg : 0 < F.length) (ho : ¬ n3 = 0) :
    Calls Try.prog 55 #[v, aggRun s (n1, n2, n3, n4, n5, n6)] x0 fun e y => e = .returned (.bool (endF P F n2 n3 (n4, n5, n6))) ∧ Below x0.heap.size x0 y := by
  obtain ⟨p, cap, rfl, _⟩ := h.shape
  obtain ⟨ps, cs, rfl, _⟩ := hF.shape
  unfold aggRun
  dsimp only
  have H : Hid (ProgAt x0 B (.slice p P.length cap) P) := h
  have HOK : Hid (progOkF P = true) := hok
  have HS : Hid (FrsAt x0 (.slice ps F.length cs) F) := hF
  have hl := progOkF_len hok
  have hn4 : (P.length : Int) ≤ 4 := by omega
  have hf5 : (F.length : Int) ≤ 5 := by omega
  clear h hok hF hl
  subst hs0
  subst hs1
  have hsb : (n6 == 0) = false := by simpa using hs
  have hob : (n3 == 0) = false := by simpa using ho
  generalize hfn : F.length = fn at *
  generalize hpn : P.length = pn at *
  have HFN : Hid (F.length = fn ∧ P.length = pn) := ⟨hfn, hpn⟩
  clear hfn hpn
  have hgi : (0 : Int) < (fn : Int) := by omega
  by_cases e2 : n2 = 2
  · subst e2
    have HAl : Hid (Below x0.heap.size x0 (x0.alloc (.cells #[.slice ps fn cs, .int .i64 n1, .int .i64 2, .int .i64 n3, .int .i64 0, .int .i64 0, .int .i64 n6] 56))) := (Below.refl _ _).alloc (Nat.le_refl _) _
    have K00 : Hid (BxN (x0.alloc (.cells #[.slice ps fn cs, .int .i64 n1, .int .i64 2, .int .i64 n3, .int .i64 0, .int .i64 0, .int .i64 n6] 56)) x0.heap.size [.slice ps fn cs, .int .i64 n1, .int .i64 2, .int .i64 n3, .int .i64 0, .int .i64 0, .int .i64 n6]) := BxN.new x0 [_, _, _, _, _, _, _] _
    go_enter Try.func55, Try.ntmps55
    go_wp2_with fail
    generalize x0.alloc (.cells #[.slice ps fn cs, .int .i64 n1, .int .i64 2, .int .i64 n3, .int .i64 0, .int .i64 0, .int .i64 n6] 56) = X at HAl K00 ⊢
    refine wp_region_vals (by kernel_rfl) (by kernel_rfl) (by kernel_rfl) (by kernel_rfl) (fun j => [.bool false, .bool false, undef, undef, undef, undef, .bool false, .bool false, undef, undef, undef, undef, .bool false, .bool false].getD j undef) X (Below.drew (Below.refl _ _)) ?step ⟨#[.slice p pn cap, .agg #[.slice ps fn cs, .int .i64 n1, .int .i64 2, .int .i64 n3, .int .i64 0, .int .i64 0, .int .i64 n6], undef, .pointer (some ⟨x0.heap.size, 0, none⟩), .bool false, .bool false, .bool false, .pointer (some ⟨x0.heap.size, 0, none⟩), .slice ps fn cs, .int .i64 ↑fn, .bool true, .bool true, .pointer (some ⟨x0.heap.size, 3, none⟩), .int .i64 n3, .bool false, .bool false, .pointer (some ⟨x0.heap.size, 4, none⟩), .agg #[.int .i64 0, .int .i64 0, .int .i64 n6], .agg #[.int .i64 0, .int .i64 0, .int .i64 0], .bool false, .pointer (some ⟨x0.heap.size, 2, none⟩), .int .i64 2, .bool false, .bool false, undef, undef, undef, undef, .bool false, .bool false, undef, undef, undef, undef, undef, undef, undef, undef, undef, undef, undef, undef, .bool true, .bool true, .bool false, .bool false, undef, undef, undef, undef, .bool false, .bool false, undef, undef, undef, undef, .bool false, undef, undef, undef, undef, undef, undef, undef, undef, undef, undef, undef, undef], []⟩ (by kernel_rfl) ?fin
    case step =>
      intro i o ho ρ y x hBx hdep hout
      rcases i with _ | i
      · obtain rfl := Option.some.inj ho
        have o5 : ρ (.tmp 5) = .bool false := hout (.tmp 5) rfl
        have ocn : ∀ v, ρ (.const v) = v := fun v => hout (.const v) rfl
        have ofn : ∀ f, ρ (.func f) = .func (.func f) #[] #[] := fun f => hout (.func f) rfl
        clear hdep hout
        refine .inl ⟨?_, ?_⟩
        · rfl
        show Gives _ _ _ (.bool false) _
        refine Gives.val ?_
        go_simp
      rcases i with _ | i
      · obtain rfl := Option.some.inj ho
        have e0 : ρ (.tmp 44) = .bool false := (hdep ⟨0, .data⟩ (by simp) rfl).1 44 rfl
        have ocn : ∀ v, ρ (.const v) = v := fun v => hout (.const v) rfl
        have ofn : ∀ f, ρ (.func f) = .func (.func f) #[] #[] := fun f => hout (.func f) rfl
        clear hdep hout
        refine .inl ⟨?_, ?_⟩
        · rfl
        show Gives _ _ _ (.bool false) _
        refine Gives.val ?_
        go_simp
      rcases i with _ | i
      · obtain rfl := Option.some.inj ho
        have o0 : ρ (.tmp 0) = .slice p pn cap := hout (.tmp 0) rfl
        have yg : y 1 = some false := (hdep ⟨1, .guard⟩ (by simp) rfl).2 45 rfl
        have ocn : ∀ v, ρ (.const v) = v := fun v => hout (.const v) rfl
        have ofn : ∀ f, ρ (.func f) = .func (.func f) #[] #[] := fun f => hout (.func f) rfl
        clear hdep hout
        refine .inr ⟨?_, rfl⟩
        show (y 1 == some true) = false
        rw [yg]; rfl
      rcases i with _ | i
      · obtain rfl := Option.some.inj ho
        have o3 : ρ (.tmp 3) = .pointer (some ⟨x0.heap.size, 0, none⟩) := hout (.tmp 3) rfl
        have yg : y 1 = some false := (hdep ⟨1, .guard⟩ (by simp) rfl).2 45 rfl
        have ocn : ∀ v, ρ (.const v) = v := fun v => hout (.const v) rfl
        have ofn : ∀ f, ρ (.func f) = .func (.func f) #[] #[] := fun f => hout (.func f) rfl
        clear hdep hout
        refine .inr ⟨?_, rfl⟩
        show (y 1 == some true) = false
        rw [yg]; rfl
      rcases i with _ | i
      · obtain rfl := Option.some.inj ho
        have e3 : ρ (.tmp 47) = undef := (hdep ⟨3, .data⟩ (by simp) rfl).1 47 rfl
        have yg : y 1 = some false := (hdep ⟨1, .guard⟩ (by simp) rfl).2 45 rfl
        have ocn : ∀ v, ρ (.const v) = v := fun v => hout (.const v) rfl
        have ofn : ∀ f, ρ (.func f) = .func (.func f) #[] #[] := fun f => hout (.func f) rfl
        clear hdep hout
        refine .inr ⟨?_, rfl⟩
        show (y 1 == some true) = false
        rw [yg]; rfl
      rcases i with _ | i
      · obtain rfl := Option.some.inj ho
        have e2 : ρ (.tmp 46) = undef := (hdep ⟨2, .data⟩ (by simp) rfl).1 46 rfl
        have e4 : ρ (.tmp 48) = undef := (hdep ⟨4, .data⟩ (by simp) rfl).1 48 rfl
        have yg : y 1 = some false := (hdep ⟨1, .guard⟩ (by simp) rfl).2 45 rfl
        have ocn : ∀ v, ρ (.const v) = v := fun v => hout (.const v) rfl
        have ofn : ∀ f, ρ (.func f) = .func (.func f) #[] #[] := fun f => hout (.func f) rfl
        clear hdep hout
        refine .inr ⟨?_, rfl⟩
        show (y 1 == some true) = false
        rw [yg]; rfl
      rcases i with _ | i
      · obtain rfl := Option.some.inj ho
        have e1 : ρ (.tmp 45) = .bool false := (hdep ⟨1, .data⟩ (by simp) rfl).1 45 rfl
        have e5 : ρ (.tmp 49) = undef := (hdep ⟨5, .data⟩ (by simp) rfl).1 49 rfl
        have ocn : ∀ v, ρ (.const v) = v := fun v => hout (.const v) rfl
        have ofn : ∀ f, ρ (.func f) = .func (.func f) #[] #[] := fun f => hout (.func f) rfl
        clear hdep hout
        refine .inl ⟨?_, ?_⟩
        · rfl
        show Gives _ _ _ (.bool false) _
        refine Gives.val ?_
        go_simp
      rcases i with _ | i
      · obtain rfl := Option.some.inj ho
        have e6 : ρ (.tmp 50) = .bool false := (hdep ⟨6, .data⟩ (by simp) rfl).1 50 rfl
        have ocn : ∀ v, ρ (.const v) = v := fun v => hout (.const v) rfl
        have ofn : ∀ f, ρ (.func f) = .func (.func f) #[] #[] := fun f => hout (.func f) rfl
        clear hdep hout
        refine .inl ⟨?_, ?_⟩
        · rfl
        show Gives _ _ _ (.bool false) _
        refine Gives.val ?_
        go_simp
      rcases i with _ | i
      · obtain rfl := Option.some.inj ho
        have o3 : ρ (.tmp 3) = .pointer (some ⟨x0.heap.size, 0, none⟩) := hout (.tmp 3) rfl
        have yg : y 7 = some false := (hdep ⟨7, .guard⟩ (by simp) rfl).2 51 rfl
        have ocn : ∀ v, ρ (.const v) = v := fun v => hout (.const v) rfl
        have ofn : ∀ f, ρ (.func f) = .func (.func f) #[] #[] := fun f => hout (.func f) rfl
        clear hdep hout
        refine .inr ⟨?_, rfl⟩
        show (y 7 == some true) = false
        rw [yg]; rfl
      rcases i with _ | i
      · obtain rfl := Option.some.inj ho
        have e8 : ρ (.tmp 52) = undef := (hdep ⟨8, .data⟩ (by simp) rfl).1 52 rfl
        have yg : y 7 = some false := (hdep ⟨7, .guard⟩ (by simp) rfl).2 51 rfl
        have ocn : ∀ v, ρ (.const v) = v := fun v => hout (.const v) rfl
        have ofn : ∀ f, ρ (.func f) = .func (.func f) #[] #[] := fun f => hout (.func f) rfl
        clear hdep hout
        refine .inr ⟨?_, rfl⟩
        show (y 7 == some true) = false
        rw [yg]; rfl
      rcases i with _ | i
      · obtain rfl := Option.some.inj ho
        have o3 : ρ (.tmp 3) = .pointer (some ⟨x0.heap.size, 0, none⟩) := hout (.tmp 3) rfl
        have yg : y 7 = some false := (hdep ⟨7, .guard⟩ (by simp) rfl).2 51 rfl
        have ocn : ∀ v, ρ (.const v) = v := fun v => hout (.const v) rfl
        have ofn : ∀ f, ρ (.func f) = .func (.func f) #[] #[] := fun f => hout (.func f) rfl
        clear hdep hout
        refine .inr ⟨?_, rfl⟩
        show (y 7 == some true) = false
        rw [yg]; rfl
      rcases i with _ | i
      · obtain rfl := Option.some.inj ho
        have e9 : ρ (.tmp 53) = undef := (hdep ⟨9, .data⟩ (by simp) rfl).1 53 rfl
        have e10 : ρ (.tmp 54) = undef := (hdep ⟨10, .data⟩ (by simp) rfl).1 54 rfl
        have yg : y 7 = some false := (hdep ⟨7, .guard⟩ (by simp) rfl).2 51 rfl
        have ocn : ∀ v, ρ (.const v) = v := fun v => hout (.const v) rfl
        have ofn : ∀ f, ρ (.func f) = .func (.func f) #[] #[] := fun f => hout (.func f) rfl
        clear hdep hout
        refine .inr ⟨?_, rfl⟩
        show (y 7 == some true) = false
        rw [yg]; rfl
      rcases i with _ | i
      · obtain rfl := Option.some.inj ho
        have e7 : ρ (.tmp 51) = .bool false := (hdep ⟨7, .data⟩ (by simp) rfl).1 51 rfl
        have e11 : ρ (.tmp 55) = undef := (hdep ⟨11, .data⟩ (by simp) rfl).1 55 rfl
        have ocn : ∀ v, ρ (.const v) = v := fun v => hout (.const v) rfl
        have ofn : ∀ f, ρ (.func f) = .func (.func f) #[] #[] := fun f => hout (.func f) rfl
        clear hdep hout
        refine .inl ⟨?_, ?_⟩
        · rfl
        show Gives _ _ _ (.bool false) _
        refine Gives.val ?_
        go_simp
      rcases i with _ | i
      · obtain rfl := Option.some.inj ho
        have e12 : ρ (.tmp 56) = .bool false := (hdep ⟨12, .data⟩ (by simp) rfl).1 56 rfl
        have ocn : ∀ v, ρ (.const v) = v := fun v => hout (.const v) rfl
        have ofn : ∀ f, ρ (.func f) = .func (.func f) #[] #[] := fun f => hout (.func f) rfl
        clear hdep hout
        refine .inl ⟨?_, ?_⟩
        · rfl
        show Gives _ _ _ (.bool false) _
        refine Gives.val ?_
        go_simp
      cases ho
    case fin =>
      intro x hBx
      have hBf := HAl.out.trans (hBx.mono HAl.out.size)
      go_wp2_with fail
      go_ret
      exact ⟨retBool (by have hfl := HFN.out.1; first | (simp [endF, noSite, HFN.out.1, hs, ho]; done) | (simp [endF, noSite, HFN.out.1, hs, ho]; intros; omega) | (simp_all [endF, noSite]; done) | (simp_all [endF, noSite] <;> omega)), hBf⟩
  · by_cases e1 : n2 = 1
    · subst e1
      go_enter Try.func55, Try.ntmps55
      go_wp2_with fail
      go_ret
      exact ⟨retBool (by have hfl := HFN.out.1; first | (simp [endF, noSite, HFN.out.1, hs, ho]; done) | (simp [endF, noSite, HFN.out.1, hs, ho]; intros; omega) | (simp_all [endF, noSite]; done) | (simp_all [endF, noSite] <;> omega)), by first | exact (Below.refl _ _).alloc (Nat.le_refl _) _ | go_grown⟩
    · go_enter Try.func55, Try.ntmps55
      go_wp2_with fail
      all_goals
        go_ret
        exact ⟨retBool (by have hfl := HFN.out.1; first | (simp [endF, noSite, HFN.out.1, hs, ho, e1, e2, *]; done) | (simp [endF, noSite, HFN.out.1, hs, ho, e1, e2, *]; intros; omega) | (simp_all [endF, noSite]; done) | (simp_all [endF, noSite] <;> omega)), by first | exact (Below.refl _ _).alloc (Nat.le_refl _) _ | go_grown⟩

set_option maxRecDepth 100000 in
set_option maxHeartbeats 8000000 in
theorem endOk_S2G2 (x0 : World) (B : Nat) (v : Value) (P : List (List I4)) (h : ProgAt x0 B v P) (hok : progOkF P = true) (s : Value) (F : List Fr) (hF : FrsAt x0 s F) (hl5 : F.length ≤ 5) (n1 n2 n3 n4 n5 n6 : Int) (hs0 : n4 = 0) (hs1 : n5 = 0) (hs : ¬ n6 = 0) (hg : 0 < F.length) (ho : n3 = 0) :
    Calls Try.prog 55 #[v, aggRun s (n1, n2, n3, n4, n5, n6)] x0 fun e y => e = .returned (.bool (endF P F n2 n3 (n4, n5, n6))) ∧ Below x0.heap.size x0 y := by
  obtain ⟨p, cap, rfl, _⟩ := h.shape
  obtain ⟨ps, cs, rfl, _⟩ := hF.shape
  unfold aggRun
  dsimp only
  have H : Hid (ProgAt x0 B (.slice p P.length cap) P) := h
  have HOK : Hid (progOkF P = true) := hok
  have HS : Hid (FrsAt x0 (.slice ps F.length cs) F) := hF
  have hl := progOkF_len hok
  have hn4 : (P.length : Int) ≤ 4 := by omega
  have hf5 : (F.length : Int) ≤ 5 := by omega
  clear h hok hF hl
  subst hs0
  subst hs1
  have hsb : (n6 == 0) = false := by simpa using hs
  subst ho
  generalize hfn : F.length = fn at *
  generalize hpn : P.length = pn at *
  have HFN : Hid (F.length = fn ∧ P.length = pn) := ⟨hfn, hpn⟩
  clear hfn hpn
  have hgi : (0 : Int) < (fn : Int) := by omega
  by_cases e2 : n2 = 2
  · subst e2
    have HAl : Hid (Below x0.heap.size x0 (x0.alloc (.cells #[.slice ps fn cs, .int .i64 n1, .int .i64 2, .int .i64 0, .int .i64 0, .int .i64 0, .int .i64 n6] 56))) := (Below.refl _ _).alloc (Nat.le_refl _) _
    have K00 : Hid (BxN (x0.alloc (.cells #[.slice ps fn cs, .int .i64 n1, .int .i64 2, .int .i64 0, .int .i64 0, .int .i64 0, .int .i64 n6] 56)) x0.heap.size [.slice ps fn cs, .int .i64 n1, .int .i64 2, .int .i64 0, .int .i64 0, .int .i64 0, .int .i64 n6]) := BxN.new x0 [_, _, _, _, _, _, _] _
    go_enter Try.func55, Try.ntmps55
    go_wp2_with fail
    generalize x0.alloc (.cells #[.slice ps fn cs, .int .i64 n1, .int .i64 2, .int .i64 0, .int .i64 0, .int .i64 0, .int .i64 n6] 56) = X at HAl K00 ⊢
    cases hso : siteOkF P (0, 0, n6)
    · skip
      have HSO : Hid (∀ z : World, Below x0.heap.size x0 z → Calls Try.prog 80 #[.slice p pn cap, .agg #[.int .i64 0, .int .i64 0, .int .i64 n6]] z fun e y => e = .returned (.bool false) ∧ Below z.heap.size z y) := fun z hz => by
        have := siteOk_any z B (.slice p pn cap) P (H.out.later hz) HOK.out (0, 0, n6)
        rw [hso] at this; exact this
      refine wp_region_vals (by kernel_rfl) (by kernel_rfl) (by kernel_rfl) (by kernel_rfl) (fun j => [.bool true, .bool true, .slice p pn cap, .pointer (some ⟨x0.heap.size, 4, none⟩), .agg #[.int .i64 0, .int .i64 0, .int .i64 n6], .bool false, .bool false, .bool false, undef, undef, undef, undef, .bool false, .bool false].getD j undef) X (Below.drew (Below.refl _ _)) ?step ⟨#[.slice p pn cap, .agg #[.slice ps fn cs, .int .i64 n1, .int .i64 2, .int .i64 0, .int .i64 0, .int .i64 0, .int .i64 n6], undef, .pointer (some ⟨x0.heap.size, 0, none⟩), .bool false, .bool true, .bool false, .pointer (some ⟨x0.heap.size, 0, none⟩), .slice ps fn cs, .int .i64 ↑fn, .bool true, .bool true, .pointer (some ⟨x0.heap.size, 3, none⟩), .int .i64 0, .bool true, .bool true, .pointer (some ⟨x0.heap.size, 4, none⟩), .agg #[.int .i64 0, .int .i64 0, .int .i64 n6], .agg #[.int .i64 0, .int .i64 0, .int .i64 0], .bool false, .pointer (some ⟨x0.heap.size, 2, none⟩), .int .i64 2, .bool false, .bool false, undef, undef, undef, undef, .bool false, .bool false, undef, undef, undef, undef, undef, undef, undef, undef, undef, undef, undef, undef, .bool true, .bool true, .bool true, .bool true, .slice p pn cap, .pointer (some ⟨x0.heap.size, 4, none⟩), .agg #[.int .i64 0, .int .i64 0, .int .i64 n6], .bool false, .bool false, .bool false, undef, undef, undef, undef, .bool false, undef, undef, undef, undef, undef, undef, undef, undef, undef, undef, undef, undef], []⟩ (by kernel_rfl) ?fin
      case step =>
        intro i o ho ρ y x hBx hdep hout
        rcases i with _ | i
        · obtain rfl := Option.some.inj ho
          have o5 : ρ (.tmp 5) = .bool true := hout (.tmp 5) rfl
          have ocn : ∀ v, ρ (.const v) = v := fun v => hout (.const v) rfl
          have ofn : ∀ f, ρ (.func f) = .func (.func f) #[] #[] := fun f => hout (.func f) rfl
          clear hdep hout
          refine .inl ⟨?_, ?_⟩
          · rfl
          show Gives _ _ _ (.bool true) _
          refine Gives.val ?_
          go_simp
        rcases i with _ | i
        · obtain rfl := Option.some.inj ho
          have e0 : ρ (.tmp 44) = .bool true := (hdep ⟨0, .data⟩ (by simp) rfl).1 44 rfl
          have ocn : ∀ v, ρ (.const v) = v := fun v => hout (.const v) rfl
          have ofn : ∀ f, ρ (.func f) = .func (.func f) #[] #[] := fun f => hout (.func f) rfl
          clear hdep hout
          refine .inl ⟨?_, ?_⟩
          · rfl
          show Gives _ _ _ (.bool true) _
          refine Gives.val ?_
          go_simp
        rcases i with _ | i
        · obtain rfl := Option.some.inj ho
          have o0 : ρ (.tmp 0) = .slice p pn cap := hout (.tmp 0) rfl
          have yg : y 1 = some true := (hdep ⟨1, .guard⟩ (by simp) rfl).2 45 rfl
          have ocn : ∀ v, ρ (.const v) = v := fun v => hout (.const v) rfl
          have ofn : ∀ f, ρ (.func f) = .func (.func f) #[] #[] := fun f => hout (.func f) rfl
          clear hdep hout
          refine .inl ⟨?_, ?_⟩
          · show (y 1 == some true) = true
            rw [yg]; rfl
          show Gives _ _ _ (.slice p pn cap) _
          refine Gives.val ?_
          go_simp
        rcases i with _ | i
        · obtain rfl := Option.some.inj ho
          have o3 : ρ (.tmp 3) = .pointer (some ⟨x0.heap.size, 0, none⟩) := hout (.tmp 3) rfl
          have yg : y 1 = some true := (hdep ⟨1, .guard⟩ (by simp) rfl).2 45 rfl
          have ocn : ∀ v, ρ (.const v) = v := fun v => hout (.const v) rfl
          have ofn : ∀ f, ρ (.func f) = .func (.func f) #[] #[] := fun f => hout (.func f) rfl
          clear hdep hout
          refine .inl ⟨?_, ?_⟩
          · show (y 1 == some true) = true
            rw [yg]; rfl
          show Gives _ _ _ (.pointer (some ⟨x0.heap.size, 4, none⟩)) _
          refine Gives.val ?_
          go_simp
        rcases i with _ | i
        · obtain rfl := Option.some.inj ho
          have e3 : ρ (.tmp 47) = .pointer (some ⟨x0.heap.size, 4, none⟩) := (hdep ⟨3, .data⟩ (by simp) rfl).1 47 rfl
          have yg : y 1 = some true := (hdep ⟨1, .guard⟩ (by simp) rfl).2 45 rfl
          have ocn : ∀ v, ρ (.const v) = v := fun v => hout (.const v) rfl
          have ofn : ∀ f, ρ (.func f) = .func (.func f) #[] #[] := fun f => hout (.func f) rfl
          clear hdep hout
          refine .inl ⟨?_, ?_⟩
          · show (y 1 == some true) = true
            rw [yg]; rfl
          have kb := K00.out.later hBx
          have c0 := kb.c 0 _ rfl
          have c3 := kb.c 3 _ rfl
          have c4 := kb.c 4 _ rfl
          have c5 := kb.c 5 _ rfl
          have c6 := kb.c 6 _ rfl
          have cl0 := kb.lt
          show Gives _ _ _ (.agg #[.int .i64 0, .int .i64 0, .int .i64 n6]) _
          refine Gives.val ?_
          go_simp
        rcases i with _ | i
        · obtain rfl := Option.some.inj ho
          have e2 : ρ (.tmp 46) = .slice p pn cap := (hdep ⟨2, .data⟩ (by simp) rfl).1 46 rfl
          have e4 : ρ (.tmp 48) = .agg #[.int .i64 0, .int .i64 0, .int .i64 n6] := (hdep ⟨4, .data⟩ (by simp) rfl).1 48 rfl
          have yg : y 1 = some true := (hdep ⟨1, .guard⟩ (by simp) rfl).2 45 rfl
          have ocn : ∀ v, ρ (.const v) = v := fun v => hout (.const v) rfl
          have ofn : ∀ f, ρ (.func f) = .func (.func f) #[] #[] := fun f => hout (.func f) rfl
          clear hdep hout
          refine .inl ⟨?_, ?_⟩
          · show (y 1 == some true) = true
            rw [yg]; rfl
          show Gives _ _ _ (.bool false) _
          refine Gives.call (HSO.out x (HAl.out.trans (hBx.mono HAl.out.size))) ?_
          go_simp
        rcases i with _ | i
        · obtain rfl := Option.some.inj ho
          have e1 : ρ (.tmp 45) = .bool true := (hdep ⟨1, .data⟩ (by simp) rfl).1 45 rfl
          have e5 : ρ (.tmp 49) = .bool false := (hdep ⟨5, .data⟩ (by simp) rfl).1 49 rfl
          have ocn : ∀ v, ρ (.const v) = v := fun v => hout (.const v) rfl
          have ofn : ∀ f, ρ (.func f) = .func (.func f) #[] #[] := fun f => hout (.func f) rfl
          clear hdep hout
          refine .inl ⟨?_, ?_⟩
          · rfl
          show Gives _ _ _ (.bool false) _
          refine Gives.val ?_
          go_simp
        rcases i with _ | i
        · obtain rfl := Option.some.inj ho
          have e6 : ρ (.tmp 50) = .bool false := (hdep ⟨6, .data⟩ (by simp) rfl).1 50 rfl
          have ocn : ∀ v, ρ (.const v) = v := fun v => hout (.const v) rfl
          have ofn : ∀ f, ρ (.func f) = .func (.func f) #[] #[] := fun f => hout (.func f) rfl
          clear hdep hout
          refine .inl ⟨?_, ?_⟩
          · rfl
          show Gives _ _ _ (.bool false) _
          refine Gives.val ?_
          go_simp
        rcases i with _ | i
        · obtain rfl := Option.some.inj ho
          have o3 : ρ (.tmp 3) = .pointer (some ⟨x0.heap.size, 0, none⟩) := hout (.tmp 3) rfl
          have yg : y 7 = some false := (hdep ⟨7, .guard⟩ (by simp) rfl).2 51 rfl
          have ocn : ∀ v, ρ (.const v) = v := fun v => hout (.const v) rfl
          have ofn : ∀ f, ρ (.func f) = .func (.func f) #[] #[] := fun f => hout (.func f) rfl
          clear hdep hout
          refine .inr ⟨?_, rfl⟩
          show (y 7 == some true) = false
          rw [yg]; rfl
        rcases i with _ | i
        · obtain rfl := Option.some.inj ho
          have e8 : ρ (.tmp 52) = undef := (hdep ⟨8, .data⟩ (by simp) rfl).1 52 rfl
          have yg : y 7 = some false := (hdep ⟨7, .guard⟩ (by simp) rfl).2 51 rfl
          have ocn : ∀ v, ρ (.const v) = v := fun v => hout (.const v) rfl
          have ofn : ∀ f, ρ (.func f) = .func (.func f) #[] #[] := fun f => hout (.func f) rfl
          clear hdep hout
          refine .inr ⟨?_, rfl⟩
          show (y 7 == some true) = false
          rw [yg]; rfl
        rcases i with _ | i
        · obtain rfl := Option.some.inj ho
          have o3 : ρ (.tmp 3) = .pointer (some ⟨x0.heap.size, 0, none⟩) := hout (.tmp 3) rfl
          have yg : y 7 = some false := (hdep ⟨7, .guard⟩ (by simp) rfl).2 51 rfl
          have ocn : ∀ v, ρ (.const v) = v := fun v => hout (.const v) rfl
          have ofn : ∀ f, ρ (.func f) = .func (.func f) #[] #[] := fun f => hout (.func f) rfl
          clear hdep hout
          refine .inr ⟨?_, rfl⟩
          show (y 7 == some true) = false
          rw [yg]; rfl
        rcases i with _ | i
        · obtain rfl := Option.some.inj ho
          have e9 : ρ (.tmp 53) = undef := (hdep ⟨9, .data⟩ (by simp) rfl).1 53 rfl
          have e10 : ρ (.tmp 54) = undef := (hdep ⟨10, .data⟩ (by simp) rfl).1 54 rfl
          have yg : y 7 = some false := (hdep ⟨7, .guard⟩ (by simp) rfl).2 51 rfl
          have ocn : ∀ v, ρ (.const v) = v := fun v => hout (.const v) rfl
          have ofn : ∀ f, ρ (.func f) = .func (.func f) #[] #[] := fun f => hout (.func f) rfl
          clear hdep hout
          refine .inr ⟨?_, rfl⟩
          show (y 7 == some true) = false
          rw [yg]; rfl
        rcases i with _ | i
        · obtain rfl := Option.some.inj ho
          have e7 : ρ (.tmp 51) = .bool false := (hdep ⟨7, .data⟩ (by simp) rfl).1 51 rfl
          have e11 : ρ (.tmp 55) = undef := (hdep ⟨11, .data⟩ (by simp) rfl).1 55 rfl
          have ocn : ∀ v, ρ (.const v) = v := fun v => hout (.const v) rfl
          have ofn : ∀ f, ρ (.func f) = .func (.func f) #[] #[] := fun f => hout (.func f) rfl
          clear hdep hout
          refine .inl ⟨?_, ?_⟩
          · rfl
          show Gives _ _ _ (.bool false) _
          refine Gives.val ?_
          go_simp
        rcases i with _ | i
        · obtain rfl := Option.some.inj ho
          have e12 : ρ (.tmp 56) = .bool false := (hdep ⟨12, .data⟩ (by simp) rfl).1 56 rfl
          have ocn : ∀ v, ρ (.const v) = v := fun v => hout (.const v) rfl
          have ofn : ∀ f, ρ (.func f) = .func (.func f) #[] #[] := fun f => hout (.func f) rfl
          clear hdep hout
          refine .inl ⟨?_, ?_⟩
          · rfl
          show Gives _ _ _ (.bool false) _
          refine Gives.val ?_
          go_simp
        cases ho
      case fin =>
        intro x hBx
        have hBf := HAl.out.trans (hBx.mono HAl.out.size)
        go_wp2_with fail
        go_ret
        exact ⟨retBool (by have hfl := HFN.out.1; first | (simp [endF, noSite, HFN.out.1, hs, hg, hso]; done) | (simp [endF, noSite, HFN.out.1, hs, hg, hso]; intros; omega) | (simp_all [endF, noSite]; done) | (simp_all [endF, noSite] <;> omega)), hBf⟩
    · skip
      have HSO : Hid (∀ z : World, Below x0.heap.size x0 z → Calls Try.prog 80 #[.slice p pn cap, .agg #[.int .i64 0, .int .i64 0, .int .i64 n6]] z fun e y => e = .returned (.bool true) ∧ Below z.heap.size z y) := fun z hz => by
        have := siteOk_any z B (.slice p pn cap) P (H.out.later hz) HOK.out (0, 0, n6)
        rw [hso] at this; exact this
      obtain ⟨g, o, hp, hgx, hfr⟩ := FrsAt.frame (p := ps) (cap := cs) (F := F) (j := F.length - 1) (by have := HS.out; rw [← HFN.out.1] at this; exact this) (by rw [HFN.out.1]; omega)
      subst hp
      have HT : Hid ((F.getD (F.length - 1) fr0) = topF F) := rfl
      rw [HT.out] at hfr
      rw [HFN.out.1] at hfr
      have t0 := hfr.c0
      have t2 := hfr.c2
      have HTP : Hid (∀ z : World, Below X.heap.size X z → Calls Try.prog 82 #[.pointer (some ⟨x0.heap.size, 0, none⟩)] z fun e y => e = .returned (.pointer (some ⟨g, o + (fn - 1) * 6, none⟩)) ∧ Below z.heap.size z y) := fun z hz => by
        have kb := K00.out.later hz
        exact top_any z x0.heap.size g o fn cs (kb.c 0 _ rfl) hg (by have := HFN.out.1; omega) kb.lt (Nat.lt_of_lt_of_le hgx (HAl.out.trans (hz.mono HAl.out.size)).size)
      have HIS : Hid (∀ z : World, Below X.heap.size X z → Calls Try.prog 81 #[.agg #[.int .i64 0, .int .i64 0, .int .i64 n6], .pointer (some ⟨g, o + (fn - 1) * 6, none⟩)] z fun e y => e = .returned (.bool (decide (0 = (topF F).p) && decide (0 = (topF F).t))) ∧ Below z.heap.size z y) := fun z hz => by
        have hbz := HAl.out.trans (hz.mono HAl.out.size)
        exact isOf_any z g (o + (fn - 1) * 6) (topF F).p (topF F).t (0, 0, n6) ((hbz.cell (p := ⟨g, _, none⟩) hgx).trans t0) ((hbz.cell (p := ⟨g, _, none⟩) hgx).trans t2) (Nat.lt_of_lt_of_le hgx hbz.size)
      refine wp_region_vals (by kernel_rfl) (by kernel_rfl) (by kernel_rfl) (by kernel_rfl) (fun j => [.bool true, .bool true, .slice p pn cap, .pointer (some ⟨x0.heap.size, 4, none⟩), .agg #[.int .i64 0, .int .i64 0, .int .i64 n6], .bool true, .bool true, .bool true, .pointer (some ⟨x0.heap.size, 4, none⟩), .agg #[.int .i64 0, .int .i64 0, .int .i64 n6], .pointer (some ⟨g, o + (fn - 1) * 6, none⟩), .bool (decide (0 = (topF F).p) && decide (0 = (topF F).t)), .bool (decide (0 = (topF F).p) && decide (0 = (topF F).t)), .bool (decide (0 = (topF F).p) && decide (0 = (topF F).t))].getD j undef) X (Below.drew (Below.refl _ _)) ?step ⟨#[.slice p pn cap, .agg #[.slice (some ⟨g, o, none⟩) fn cs, .int .i64 n1, .int .i64 2, .int .i64 0, .int .i64 0, .int .i64 0, .int .i64 n6], undef, .pointer (some ⟨x0.heap.size, 0, none⟩), .bool (decide (0 = (topF F).p) && decide (0 = (topF F).t)), .bool true, .bool false, .pointer (some ⟨x0.heap.size, 0, none⟩), .slice (some ⟨g, o, none⟩) fn cs, .int .i64 ↑fn, .bool true, .bool true, .pointer (some ⟨x0.heap.size, 3, none⟩), .int .i64 0, .bool true, .bool true, .pointer (some ⟨x0.heap.size, 4, none⟩), .agg #[.int .i64 0, .int .i64 0, .int .i64 n6], .agg #[.int .i64 0, .int .i64 0, .int .i64 0], .bool false, .pointer (some ⟨x0.heap.size, 2, none⟩), .int .i64 2, .bool false, .bool false, undef, undef, undef, undef, .bool false, .bool false, undef, undef, undef, undef, undef, undef, undef, undef, undef, undef, undef, undef, .bool true, .bool true, .bool true, .bool true, .slice p pn cap, .pointer (some ⟨x0.heap.size, 4, none⟩), .agg #[.int .i64 0, .int .i64 0, .int .i64 n6], .bool true, .bool true, .bool true, .pointer (some ⟨x0.heap.size, 4, none⟩), .agg #[.int .i64 0, .int .i64 0, .int .i64 n6], .pointer (some ⟨g, o + (fn - 1) * 6, none⟩), .bool (decide (0 = (topF F).p) && decide (0 = (topF F).t)), .bool (decide (0 = (topF F).p) && decide (0 = (topF F).t)), undef, undef, undef, undef, undef, undef, undef, undef, undef, undef, undef, undef], []⟩ (by kernel_rfl) ?fin
      case step =>
        intro i o ho ρ y x hBx hdep hout
        rcases i with _ | i
        · obtain rfl := Option.some.inj ho
          have o5 : ρ (.tmp 5) = .bool true := hout (.tmp 5) rfl
          have ocn : ∀ v, ρ (.const v) = v := fun v => hout (.const v) rfl
          have ofn : ∀ f, ρ (.func f) = .func (.func f) #[] #[] := fun f => hout (.func f) rfl
          clear hdep hout
          refine .inl ⟨?_, ?_⟩
          · rfl
          show Gives _ _ _ (.bool true) _
          refine Gives.val ?_
          go_simp
        rcases i with _ | i
        · obtain rfl := Option.some.inj ho
          have e0 : ρ (.tmp 44) = .bool true := (hdep ⟨0, .data⟩ (by simp) rfl).1 44 rfl
          have ocn : ∀ v, ρ (.const v) = v := fun v => hout (.const v) rfl
          have ofn : ∀ f, ρ (.func f) = .func (.func f) #[] #[] := fun f => hout (.func f) rfl
          clear hdep hout
          refine .inl ⟨?_, ?_⟩
          · rfl
          show Gives _ _ _ (.bool true) _
          refine Gives.val ?_
          go_simp
        rcases i with _ | i
        · obtain rfl := Option.some.inj ho
          have o0 : ρ (.tmp 0) = .slice p pn cap := hout (.tmp 0) rfl
          have yg : y 1 = some true := (hdep ⟨1, .guard⟩ (by simp) rfl).2 45 rfl
          have ocn : ∀ v, ρ (.const v) = v := fun v => hout (.const v) rfl
          have ofn : ∀ f, ρ (.func f) = .func (.func f) #[] #[] := fun f => hout (.func f) rfl
          clear hdep hout
          refine .inl ⟨?_, ?_⟩
          · show (y 1 == some true) = true
            rw [yg]; rfl
          show Gives _ _ _ (.slice p pn cap) _
          refine Gives.val ?_
          go_simp
        rcases i with _ | i
        · obtain rfl := Option.some.inj ho
          have o3 : ρ (.tmp 3) = .pointer (some ⟨x0.heap.size, 0, none⟩) := hout (.tmp 3) rfl
          have yg : y 1 = some true := (hdep ⟨1, .guard⟩ (by simp) rfl).2 45 rfl
          have ocn : ∀ v, ρ (.const v) = v := fun v => hout (.const v) rfl
          have ofn : ∀ f, ρ (.func f) = .func (.func f) #[] #[] := fun f => hout (.func f) rfl
          clear hdep hout
          refine .inl ⟨?_, ?_⟩
          · show (y 1 == some true) = true
            rw [yg]; rfl
          show Gives _ _ _ (.pointer (some ⟨x0.heap.size, 4, none⟩)) _
          refine Gives.val ?_
          go_simp
        rcases i with _ | i
        · obtain rfl := Option.some.inj ho
          have e3 : ρ (.tmp 47) = .pointer (some ⟨x0.heap.size, 4, none⟩) := (hdep ⟨3, .data⟩ (by simp) rfl).1 47 rfl
          have yg : y 1 = some true := (hdep ⟨1, .guard⟩ (by simp) rfl).2 45 rfl
          have ocn : ∀ v, ρ (.const v) = v := fun v => hout (.const v) rfl
          have ofn : ∀ f, ρ (.func f) = .func (.func f) #[] #[] := fun f => hout (.func f) rfl
          clear hdep hout
          refine .inl ⟨?_, ?_⟩
          · show (y 1 == some true) = true
            rw [yg]; rfl
          have kb := K00.out.later hBx
          have c0 := kb.c 0 _ rfl
          have c3 := kb.c 3 _ rfl
          have c4 := kb.c 4 _ rfl
          have c5 := kb.c 5 _ rfl
          have c6 := kb.c 6 _ rfl
          have cl0 := kb.lt
          show Gives _ _ _ (.agg #[.int .i64 0, .int .i64 0, .int .i64 n6]) _
          refine Gives.val ?_
          go_simp
        rcases i with _ | i
        · obtain rfl := Option.some.inj ho
          have e2 : ρ (.tmp 46) = .slice p pn cap := (hdep ⟨2, .data⟩ (by simp) rfl).1 46 rfl
          have e4 : ρ (.tmp 48) = .agg #[.int .i64 0, .int .i64 0, .int .i64 n6] := (hdep ⟨4, .data⟩ (by simp) rfl).1 48 rfl
          have yg : y 1 = some true := (hdep ⟨1, .guard⟩ (by simp) rfl).2 45 rfl
          have ocn : ∀ v, ρ (.const v) = v := fun v => hout (.const v) rfl
          have ofn : ∀ f, ρ (.func f) = .func (.func f) #[] #[] := fun f => hout (.func f) rfl
          clear hdep hout
          refine .inl ⟨?_, ?_⟩
          · show (y 1 == some true) = true
            rw [yg]; rfl
          show Gives _ _ _ (.bool true) _
          refine Gives.call (HSO.out x (HAl.out.trans (hBx.mono HAl.out.size))) ?_
          go_simp
        rcases i with _ | i
        · obtain rfl := Option.some.inj ho
          have e1 : ρ (.tmp 45) = .bool true := (hdep ⟨1, .data⟩ (by simp) rfl).1 45 rfl
          have e5 : ρ (.tmp 49) = .bool true := (hdep ⟨5, .data⟩ (by simp) rfl).1 49 rfl
          have ocn : ∀ v, ρ (.const v) = v := fun v => hout (.const v) rfl
          have ofn : ∀ f, ρ (.func f) = .func (.func f) #[] #[] := fun f => hout (.func f) rfl
          clear hdep hout
          refine .inl ⟨?_, ?_⟩
          · rfl
          show Gives _ _ _ (.bool true) _
          refine Gives.val ?_
          go_simp
        rcases i with _ | i
        · obtain rfl := Option.some.inj ho
          have e6 : ρ (.tmp 50) = .bool true := (hdep ⟨6, .data⟩ (by simp) rfl).1 50 rfl
          have ocn : ∀ v, ρ (.const v) = v := fun v => hout (.const v) rfl
          have ofn : ∀ f, ρ (.func f) = .func (.func f) #[] #[] := fun f => hout (.func f) rfl
          clear hdep hout
          refine .inl ⟨?_, ?_⟩
          · rfl
          show Gives _ _ _ (.bool true) _
          refine Gives.val ?_
          go_simp
        rcases i with _ | i
        · obtain rfl := Option.some.inj ho
          have o3 : ρ (.tmp 3) = .pointer (some ⟨x0.heap.size, 0, none⟩) := hout (.tmp 3) rfl
          have yg : y 7 = some true := (hdep ⟨7, .guard⟩ (by simp) rfl).2 51 rfl
          have ocn : ∀ v, ρ (.const v) = v := fun v => hout (.const v) rfl
          have ofn : ∀ f, ρ (.func f) = .func (.func f) #[] #[] := fun f => hout (.func f) rfl
          clear hdep hout
          refine .inl ⟨?_, ?_⟩
          · show (y 7 == some true) = true
            rw [yg]; rfl
          show Gives _ _ _ (.pointer (some ⟨x0.heap.size, 4, none⟩)) _
          refine Gives.val ?_
          go_simp
        rcases i with _ | i
        · obtain rfl := Option.some.inj ho
          have e8 : ρ (.tmp 52) = .pointer (some ⟨x0.heap.size, 4, none⟩) := (hdep ⟨8, .data⟩ (by simp) rfl).1 52 rfl
          have yg : y 7 = some true := (hdep ⟨7, .guard⟩ (by simp) rfl).2 51 rfl
          have ocn : ∀ v, ρ (.const v) = v := fun v => hout (.const v) rfl
          have ofn : ∀ f, ρ (.func f) = .func (.func f) #[] #[] := fun f => hout (.func f) rfl
          clear hdep hout
          refine .inl ⟨?_, ?_⟩
          · show (y 7 == some true) = true
            rw [yg]; rfl
          have kb := K00.out.later hBx
          have c0 := kb.c 0 _ rfl
          have c3 := kb.c 3 _ rfl
          have c4 := kb.c 4 _ rfl
          have c5 := kb.c 5 _ rfl
          have c6 := kb.c 6 _ rfl
          have cl0 := kb.lt
          show Gives _ _ _ (.agg #[.int .i64 0, .int .i64 0, .int .i64 n6]) _
          refine Gives.val ?_
          go_simp
        rcases i with _ | i
        · obtain rfl := Option.some.inj ho
          have o3 : ρ (.tmp 3) = .pointer (some ⟨x0.heap.size, 0, none⟩) := hout (.tmp 3) rfl
          have yg : y 7 = some true := (hdep ⟨7, .guard⟩ (by simp) rfl).2 51 rfl
          have ocn : ∀ v, ρ (.const v) = v := fun v => hout (.const v) rfl
          have ofn : ∀ f, ρ (.func f) = .func (.func f) #[] #[] := fun f => hout (.func f) rfl
          clear hdep hout
          refine .inl ⟨?_, ?_⟩
          · show (y 7 == some true) = true
            rw [yg]; rfl
          show Gives _ _ _ (.pointer (some ⟨g, o + (fn - 1) * 6, none⟩)) _
          refine Gives.call (HTP.out x hBx) ?_
          go_simp
        rcases i with _ | i
        · obtain rfl := Option.some.inj ho
          have e9 : ρ (.tmp 53) = .agg #[.int .i64 0, .int .i64 0, .int .i64 n6] := (hdep ⟨9, .data⟩ (by simp) rfl).1 53 rfl
          have e10 : ρ (.tmp 54) = .pointer (some ⟨g, o + (fn - 1) * 6, none⟩) := (hdep ⟨10, .data⟩ (by simp) rfl).1 54 rfl
          have yg : y 7 = some true := (hdep ⟨7, .guard⟩ (by simp) rfl).2 51 rfl
          have ocn : ∀ v, ρ (.const v) = v := fun v => hout (.const v) rfl
          have ofn : ∀ f, ρ (.func f) = .func (.func f) #[] #[] := fun f => hout (.func f) rfl
          clear hdep hout
          refine .inl ⟨?_, ?_⟩
          · show (y 7 == some true) = true
            rw [yg]; rfl
          show Gives _ _ _ (.bool (decide (0 = (topF F).p) && decide (0 = (topF F).t))) _
          refine Gives.call (HIS.out x hBx) ?_
          go_simp
        rcases i with _ | i
        · obtain rfl := Option.some.inj ho
          have e7 : ρ (.tmp 51) = .bool true := (hdep ⟨7, .data⟩ (by simp) rfl).1 51 rfl
          have e11 : ρ (.tmp 55) = .bool (decide (0 = (topF F).p) && decide (0 = (topF F).t)) := (hdep ⟨11, .data⟩ (by simp) rfl).1 55 rfl
          have ocn : ∀ v, ρ (.const v) = v := fun v => hout (.const v) rfl
          have ofn : ∀ f, ρ (.func f) = .func (.func f) #[] #[] := fun f => hout (.func f) rfl
          clear hdep hout
          refine .inl ⟨?_, ?_⟩
          · rfl
          show Gives _ _ _ (.bool (decide (0 = (topF F).p) && decide (0 = (topF F).t))) _
          refine Gives.val ?_
          go_simp
        rcases i with _ | i
        · obtain rfl := Option.some.inj ho
          have e12 : ρ (.tmp 56) = .bool (decide (0 = (topF F).p) && decide (0 = (topF F).t)) := (hdep ⟨12, .data⟩ (by simp) rfl).1 56 rfl
          have ocn : ∀ v, ρ (.const v) = v := fun v => hout (.const v) rfl
          have ofn : ∀ f, ρ (.func f) = .func (.func f) #[] #[] := fun f => hout (.func f) rfl
          clear hdep hout
          refine .inl ⟨?_, ?_⟩
          · rfl
          show Gives _ _ _ (.bool (decide (0 = (topF F).p) && decide (0 = (topF F).t))) _
          refine Gives.val ?_
          go_simp
        cases ho
      case fin =>
        intro x hBx
        have hBf := HAl.out.trans (hBx.mono HAl.out.size)
        go_wp2_with fail
        go_ret
        exact ⟨retBool (by have hfl := HFN.out.1; first | (simp [endF, noSite, HFN.out.1, hs, hg, hso]; done) | (simp [endF, noSite, HFN.out.1, hs, hg, hso]; intros; omega) | (simp_all [endF, noSite]; done) | (simp_all [endF, noSite] <;> omega)), hBf⟩
  · by_cases e1 : n2 = 1
    · subst e1
      go_enter Try.func55, Try.ntmps55
      go_wp2_with fail
      go_ret
      exact ⟨retBool (by have hfl := HFN.out.1; first | (simp [endF, noSite, HFN.out.1, hs, hg]; done) | (simp [endF, noSite, HFN.out.1, hs, hg]; intros; omega) | (simp_all [endF, noSite]; done) | (simp_all [endF, noSite] <;> omega)), by first | exact (Below.refl _ _).alloc (Nat.le_refl _) _ | go_grown⟩
    · go_enter Try.func55, Try.ntmps55
      go_wp2_with fail
      all_goals
        go_ret
        exact ⟨retBool (by have hfl := HFN.out.1; first | (simp [endF, noSite, HFN.out.1, hs, hg, e1, e2, *]; done) | (simp [endF, noSite, HFN.out.1, hs, hg, e1, e2, *]; intros; omega) | (simp_all [endF, noSite]; done) | (simp_all [endF, noSite] <;> omega)), by first | exact (Below.refl _ _).alloc (Nat.le_refl _) _ | go_grown⟩

set_option maxRecDepth 100000 in
set_option maxHeartbeats 8000000 in
theorem endOk_S3G0 (x0 : World) (B : Nat) (v : Value) (P : List (List I4)) (h : ProgAt x0 B v P) (hok : progOkF P = true) (s : Value) (F : List Fr) (hF : FrsAt x0 s F) (hl5 : F.length ≤ 5) (n1 n2 n3 n4 n5 n6 : Int) (hs0 : n4 = 0) (hs1 : n5 = 0) (hs2 : n6 = 0) (hg : F.length = 0) :
    Calls Try.prog 55 #[v, aggRun s (n1, n2, n3, n4, n5, n6)] x0 fun e y => e = .returned (.bool (endF P F n2 n3 (n4, n5, n6))) ∧ Below x0.heap.size x0 y := by
  obtain ⟨p, cap, rfl, _⟩ := h.shape
  obtain ⟨ps, cs, rfl, _⟩ := hF.shape
  unfold aggRun
  dsimp only
  have H : Hid (ProgAt x0 B (.slice p P.length cap) P) := h
  have HOK : Hid (progOkF P = true) := hok
  have HS : Hid (FrsAt x0 (.slice ps F.length cs) F) := hF
  have hl := progOkF_len hok
  have hn4 : (P.length : Int) ≤ 4 := by omega
  have hf5 : (F.length : Int) ≤ 5 := by omega
  clear h hok hF hl
  subst hs0
  subst hs1
  subst hs2
  generalize hfn : F.length = fn at *
  generalize hpn : P.length = pn at *
  have HFN : Hid (F.length = fn ∧ P.length = pn) := ⟨hfn, hpn⟩
  clear hfn hpn
  subst hg
  by_cases e2 : n2 = 2
  · subst e2
    have HAl : Hid (Below x0.heap.size x0 (x0.alloc (.cells #[.slice ps 0 cs, .int .i64 n1, .int .i64 2, .int .i64 n3, .int .i64 0, .int .i64 0, .int .i64 0] 56))) := (Below.refl _ _).alloc (Nat.le_refl _) _
    have K00 : Hid (BxN (x0.alloc (.cells #[.slice ps 0 cs, .int .i64 n1, .int .i64 2, .int .i64 n3, .int .i64 0, .int .i64 0, .int .i64 0] 56)) x0.heap.size [.slice ps 0 cs, .int .i64 n1, .int .i64 2, .int .i64 n3, .int .i64 0, .int .i64 0, .int .i64 0]) := BxN.new x0 [_, _, _, _, _, _, _] _
    go_enter Try.func55, Try.ntmps55
    go_wp2_with fail
    generalize x0.alloc (.cells #[.slice ps 0 cs, .int .i64 n1, .int .i64 2, .int .i64 n3, .int .i64 0, .int .i64 0, .int .i64 0] 56) = X at HAl K00 ⊢
    refine wp_region_vals (by kernel_rfl) (by kernel_rfl) (by kernel_rfl) (by kernel_rfl) (fun j => [.bool false, .bool false, undef, undef, undef, undef, .bool false, .bool false, undef, undef, undef, undef, .bool false, .bool false].getD j undef) X (Below.drew (Below.refl _ _)) ?step ⟨#[.slice p pn cap, .agg #[.slice ps 0 cs, .int .i64 n1, .int .i64 2, .int .i64 n3, .int .i64 0, .int .i64 0, .int .i64 0], undef, .pointer (some ⟨x0.heap.size, 0, none⟩), .bool false, .bool false, .bool true, .pointer (some ⟨x0.heap.size, 0, none⟩), .slice ps 0 cs, .int .i64 0, .bool false, .bool false, undef, undef, undef, .bool false, .pointer (some ⟨x0.heap.size, 4, none⟩), .agg #[.int .i64 0, .int .i64 0, .int .i64 0], .agg #[.int .i64 0, .int .i64 0, .int .i64 0], .bool true, .pointer (some ⟨x0.heap.size, 2, none⟩), .int .i64 2, .bool false, .bool false, undef, undef, undef, undef, .bool false, .bool false, undef, undef, undef, undef, undef, undef, undef, undef, undef, undef, undef, undef, .bool true, .bool true, .bool false, .bool false, undef, undef, undef, undef, .bool false, .bool false, undef, undef, undef, undef, .bool false, undef, undef, undef, undef, undef, undef, undef, undef, undef, undef, undef, undef], []⟩ (by kernel_rfl) ?fin
    case step =>
      intro i o ho ρ y x hBx hdep hout
      rcases i with _ | i
      · obtain rfl := Option.some.inj ho
        have o5 : ρ (.tmp 5) = .bool false := hout (.tmp 5) rfl
        have ocn : ∀ v, ρ (.const v) = v := fun v => hout (.const v) rfl
        have ofn : ∀ f, ρ (.func f) = .func (.func f) #[] #[] := fun f => hout (.func f) rfl
        clear hdep hout
        refine .inl ⟨?_, ?_⟩
        · rfl
        show Gives _ _ _ (.bool false) _
        refine Gives.val ?_
        go_simp
      rcases i with _ | i
      · obtain rfl := Option.some.inj ho
        have e0 : ρ (.tmp 44) = .bool false := (hdep ⟨0, .data⟩ (by simp) rfl).1 44 rfl
        have ocn : ∀ v, ρ (.const v) = v := fun v => hout (.const v) rfl
        have ofn : ∀ f, ρ (.func f) = .func (.func f) #[] #[] := fun f => hout (.func f) rfl
        clear hdep hout
        refine .inl ⟨?_, ?_⟩
        · rfl
        show Gives _ _ _ (.bool false) _
        refine Gives.val ?_
        go_simp
      rcases i with _ | i
      · obtain rfl := Option.some.inj ho
        have o0 : ρ (.tmp 0) = .slice p pn cap := hout (.tmp 0) rfl
        have yg : y 1 = some false := (hdep ⟨1, .guard⟩ (by simp) rfl).2 45 rfl
        have ocn : ∀ v, ρ (.const v) = v := fun v => hout (.const v) rfl
        have ofn : ∀ f, ρ (.func f) = .func (.func f) #[] #[] := fun f => hout (.func f) rfl
        clear hdep hout
        refine .inr ⟨?_, rfl⟩
        show (y 1 == some true) = false
        rw [yg]; rfl
      rcases i with _ | i
      · obtain rfl := Option.some.inj ho
        have o3 : ρ (.tmp 3) = .pointer (some ⟨x0.heap.size, 0, none⟩) := hout (.tmp 3) rfl
        have yg : y 1 = some false := (hdep ⟨1, .guard⟩ (by simp) rfl).2 45 rfl
        have ocn : ∀ v, ρ (.const v) = v := fun v => hout (.const v) rfl
        have ofn : ∀ f, ρ (.func f) = .func (.func f) #[] #[] := fun f => hout (.func f) rfl
        clear hdep hout
        refine .inr ⟨?_, rfl⟩
        show (y 1 == some true) = false
        rw [yg]; rfl
      rcases i with _ | i
      · obtain rfl := Option.some.inj ho
        have e3 : ρ (.tmp 47) = undef := (hdep ⟨3, .data⟩ (by simp) rfl).1 47 rfl
        have yg : y 1 = some false := (hdep ⟨1, .guard⟩ (by simp) rfl).2 45 rfl
        have ocn : ∀ v, ρ (.const v) = v := fun v => hout (.const v) rfl
        have ofn : ∀ f, ρ (.func f) = .func (.func f) #[] #[] := fun f => hout (.func f) rfl
        clear hdep hout
        refine .inr ⟨?_, rfl⟩
        show (y 1 == some true) = false
        rw [yg]; rfl
      rcases i with _ | i
      · obtain rfl := Option.some.inj ho
        have e2 : ρ (.tmp 46) = undef := (hdep ⟨2, .data⟩ (by simp) rfl).1 46 rfl
        have e4 : ρ (.tmp 48) = undef := (hdep ⟨4, .data⟩ (by simp) rfl).1 48 rfl
        have yg : y 1 = some false := (hdep ⟨1, .guard⟩ (by simp) rfl).2 45 rfl
        have ocn : ∀ v, ρ (.const v) = v := fun v => hout (.const v) rfl
        have ofn : ∀ f, ρ (.func f) = .func (.func f) #[] #[] := fun f => hout (.func f) rfl
        clear hdep hout
        refine .inr ⟨?_, rfl⟩
        show (y 1 == some true) = false
        rw [yg]; rfl
      rcases i with _ | i
      · obtain rfl := Option.some.inj ho
        have e1 : ρ (.tmp 45) = .bool false := (hdep ⟨1, .data⟩ (by simp) rfl).1 45 rfl
        have e5 : ρ (.tmp 49) = undef := (hdep ⟨5, .data⟩ (by simp) rfl).1 49 rfl
        have ocn : ∀ v, ρ (.const v) = v := fun v => hout (.const v) rfl
        have ofn : ∀ f, ρ (.func f) = .func (.func f) #[] #[] := fun f => hout (.func f) rfl
        clear hdep hout
        refine .inl ⟨?_, ?_⟩
        · rfl
        show Gives _ _ _ (.bool false) _
        refine Gives.val ?_
        go_simp
      rcases i with _ | i
      · obtain rfl := Option.some.inj ho
        have e6 : ρ (.tmp 50) = .bool false := (hdep ⟨6, .data⟩ (by simp) rfl).1 50 rfl
        have ocn : ∀ v, ρ (.const v) = v := fun v => hout (.const v) rfl
        have ofn : ∀ f, ρ (.func f) = .func (.func f) #[] #[] := fun f => hout (.func f) rfl
        clear hdep hout
        refine .inl ⟨?_, ?_⟩
        · rfl
        show Gives _ _ _ (.bool false) _
        refine Gives.val ?_
        go_simp
      rcases i with _ | i
      · obtain rfl := Option.some.inj ho
        have o3 : ρ (.tmp 3) = .pointer (some ⟨x0.heap.size, 0, none⟩) := hout (.tmp 3) rfl
        have yg : y 7 = some false := (hdep ⟨7, .guard⟩ (by simp) rfl).2 51 rfl
        have ocn : ∀ v, ρ (.const v) = v := fun v => hout (.const v) rfl
        have ofn : ∀ f, ρ (.func f) = .func (.func f) #[] #[] := fun f => hout (.func f) rfl
        clear hdep hout
        refine .inr ⟨?_, rfl⟩
        show (y 7 == some true) = false
        rw [yg]; rfl
      rcases i with _ | i
      · obtain rfl := Option.some.inj ho
        have e8 : ρ (.tmp 52) = undef := (hdep ⟨8, .data⟩ (by simp) rfl).1 52 rfl
        have yg : y 7 = some false := (hdep ⟨7, .guard⟩ (by simp) rfl).2 51 rfl
        have ocn : ∀ v, ρ (.const v) = v := fun v => hout (.const v) rfl
        have ofn : ∀ f, ρ (.func f) = .func (.func f) #[] #[] := fun f => hout (.func f) rfl
        clear hdep hout
        refine .inr ⟨?_, rfl⟩
        show (y 7 == some true) = false
        rw [yg]; rfl
      rcases i with _ | i
      · obtain rfl := Option.some.inj ho
        have o3 : ρ (.tmp 3) = .pointer (some ⟨x0.heap.size, 0, none⟩) := hout (.tmp 3) rfl
        have yg : y 7 = some false := (hdep ⟨7, .guard⟩ (by simp) rfl).2 51 rfl
        have ocn : ∀ v, ρ (.const v) = v := fun v => hout (.const v) rfl
        have ofn : ∀ f, ρ (.func f) = .func (.func f) #[] #[] := fun f => hout (.func f) rfl
        clear hdep hout
        refine .inr ⟨?_, rfl⟩
        show (y 7 == some true) = false
        rw [yg]; rfl
      rcases i with _ | i
      · obtain rfl := Option.some.inj ho
        have e9 : ρ (.tmp 53) = undef := (hdep ⟨9, .data⟩ (by simp) rfl).1 53 rfl
        have e10 : ρ (.tmp 54) = undef := (hdep ⟨10, .data⟩ (by simp) rfl).1 54 rfl
        have yg : y 7 = some false := (hdep ⟨7, .guard⟩ (by simp) rfl).2 51 rfl
        have ocn : ∀ v, ρ (.const v) = v := fun v => hout (.const v) rfl
        have ofn : ∀ f, ρ (.func f) = .func (.func f) #[] #[] := fun f => hout (.func f) rfl
        clear hdep hout
        refine .inr ⟨?_, rfl⟩
        show (y 7 == some true) = false
        rw [yg]; rfl
      rcases i with _ | i
      · obtain rfl := Option.some.inj ho
        have e7 : ρ (.tmp 51) = .bool false := (hdep ⟨7, .data⟩ (by simp) rfl).1 51 rfl
        have e11 : ρ (.tmp 55) = undef := (hdep ⟨11, .data⟩ (by simp) rfl).1 55 rfl
        have ocn : ∀ v, ρ (.const v) = v := fun v => hout (.const v) rfl
        have ofn : ∀ f, ρ (.func f) = .func (.func f) #[] #[] := fun f => hout (.func f) rfl
        clear hdep hout
        refine .inl ⟨?_, ?_⟩
        · rfl
        show Gives _ _ _ (.bool false) _
        refine Gives.val ?_
        go_simp
      rcases i with _ | i
      · obtain rfl := Option.some.inj ho
        have e12 : ρ (.tmp 56) = .bool false := (hdep ⟨12, .data⟩ (by simp) rfl).1 56 rfl
        have ocn : ∀ v, ρ (.const v) = v := fun v => hout (.const v) rfl
        have ofn : ∀ f, ρ (.func f) = .func (.func f) #[] #[] := fun f => hout (.func f) rfl
        clear hdep hout
        refine .inl ⟨?_, ?_⟩
        · rfl
        show Gives _ _ _ (.bool false) _
        refine Gives.val ?_
        go_simp
      cases ho
    case fin =>
      intro x hBx
      have hBf := HAl.out.trans (hBx.mono HAl.out.size)
      go_wp2_with fail
      go_ret
      exact ⟨retBool (by have hfl := HFN.out.1; first | (simp [endF, noSite, HFN.out.1]; done) | (simp [endF, noSite, HFN.out.1]; intros; omega) | (simp_all [endF, noSite]; done) | (simp_all [endF, noSite] <;> omega)), hBf⟩
  · by_cases e1 : n2 = 1
    · subst e1
      go_enter Try.func55, Try.ntmps55
      go_wp2_with fail
      refine (isWord_e n3 _).mono ?_
      rintro e z ⟨rfl, rfl⟩
      cases hw : inI n3 (-16) 15
      all_goals
        go_wp2_with fail
        go_ret
        exact ⟨retBool (by have hfl := HFN.out.1; first | (simp [endF, noSite, HFN.out.1, wdF, hw]; done) | (simp [endF, noSite, HFN.out.1, wdF, hw]; intros; omega) | (simp_all [endF, noSite]; done) | (simp_all [endF, noSite] <;> omega)), by first | exact (Below.refl _ _).alloc (Nat.le_refl _) _ | go_grown⟩
    · go_enter Try.func55, Try.ntmps55
      go_wp2_with fail
      all_goals
        go_ret
        exact ⟨retBool (by have hfl := HFN.out.1; first | (simp [endF, noSite, HFN.out.1, e1, e2, *]; done) | (simp [endF, noSite, HFN.out.1, e1, e2, *]; intros; omega) | (simp_all [endF, noSite]; done) | (simp_all [endF, noSite] <;> omega)), by first | exact (Below.refl _ _).alloc (Nat.le_refl _) _ | go_grown⟩

set_option maxRecDepth 100000 in
set_option maxHeartbeats 8000000 in
theorem endOk_S3G1 (x0 : World) (B : Nat) (v : Value) (P : List (List I4)) (h : ProgAt x0 B v P) (hok : progOkF P = true) (s : Value) (F : List Fr) (hF : FrsAt x0 s F) (hl5 : F.length ≤ 5) (n1 n2 n3 n4 n5 n6 : Int) (hs0 : n4 = 0) (hs1 : n5 = 0) (hs2 : n6 = 0) (hg : 0 < F.length) (ho : ¬ n3 = 0) :
    Calls Try.prog 55 #[v, aggRun s (n1, n2, n3, n4, n5, n6)] x0 fun e y => e = .returned (.bool (endF P F n2 n3 (n4, n5, n6))) ∧ Below x0.heap.size x0 y := by
  obtain ⟨p, cap, rfl, _⟩ := h.shape
  obtain ⟨ps, cs, rfl, _⟩ := hF.shape
  unfold aggRun
  dsimp only
  have H : Hid (ProgAt x0 B (.slice p P.length cap) P) := h
  have HOK : Hid (progOkF P = true) := hok
  have HS : Hid (FrsAt x0 (.slice ps F.length cs) F) := hF
  have hl := progOkF_len hok
  have hn4 : (P.length : Int) ≤ 4 := by omega
  have hf5 : (F.length : Int) ≤ 5 := by omega
  clear h hok hF hl
  subst hs0
  subst hs1
  subst hs2
  have hob : (n3 == 0) = false := by simpa using ho
  generalize hfn : F.length = fn at *
  generalize hpn : P.length = pn at *
  have HFN : Hid (F.length = fn ∧ P.length = pn) := ⟨hfn, hpn⟩
  clear hfn hpn
  have hgi : (0 : Int) < (fn : Int) := by omega
  by_cases e2 : n2 = 2
  · subst e2
    have HAl : Hid (Below x0.heap.size x0 (x0.alloc (.cells #[.slice ps fn cs, .int .i64 n1, .int .i64 2, .int .i64 n3, .int .i64 0, .int .i64 0, .int .i64 0] 56))) := (Below.refl _ _).alloc (Nat.le_refl _) _
    have K00 : Hid (BxN (x0.alloc (.cells #[.slice ps fn cs, .int .i64 n1, .int .i64 2, .int .i64 n3, .int .i64 0, .int .i64 0, .int .i64 0] 56)) x0.heap.size [.slice ps fn cs, .int .i64 n1, .int .i64 2, .int .i64 n3, .int .i64 0, .int .i64 0, .int .i64 0]) := BxN.new x0 [_, _, _, _, _, _, _] _
    go_enter Try.func55, Try.ntmps55
    go_wp2_with fail
    generalize x0.alloc (.cells #[.slice ps fn cs, .int .i64 n1, .int .i64 2, .int .i64 n3, .int .i64 0, .int .i64 0, .int .i64 0] 56) = X at HAl K00 ⊢
    refine wp_region_vals (by kernel_rfl) (by kernel_rfl) (by kernel_rfl) (by kernel_rfl) (fun j => [.bool false, .bool false, undef, undef, undef, undef, .bool false, .bool false, undef, undef, undef, undef, .bool false, .bool false].getD j undef) X (Below.drew (Below.refl _ _)) ?step ⟨#[.slice p pn cap, .agg #[.slice ps fn cs, .int .i64 n1, .int .i64 2, .int .i64 n3, .int .i64 0, .int .i64 0, .int .i64 0], undef, .pointer (some ⟨x0.heap.size, 0, none⟩), .bool false, .bool false, .bool true, .pointer (some ⟨x0.heap.size, 0, none⟩), .slice ps fn cs, .int .i64 ↑fn, .bool true, .bool true, .pointer (some ⟨x0.heap.size, 3, none⟩), .int .i64 n3, .bool false, .bool false, .pointer (some ⟨x0.heap.size, 4, none⟩), .agg #[.int .i64 0, .int .i64 0, .int .i64 0], .agg #[.int .i64 0, .int .i64 0, .int .i64 0], .bool true, .pointer (some ⟨x0.heap.size, 2, none⟩), .int .i64 2, .bool false, .bool false, undef, undef, undef, undef, .bool false, .bool false, undef, undef, undef, undef, undef, undef, undef, undef, undef, undef, undef, undef, .bool true, .bool true, .bool false, .bool false, undef, undef, undef, undef, .bool false, .bool false, undef, undef, undef, undef, .bool false, undef, undef, undef, undef, undef, undef, undef, undef, undef, undef, undef, undef], []⟩ (by kernel_rfl) ?fin
    case step =>
      intro i o ho ρ y x hBx hdep hout
      rcases i with _ | i
      · obtain rfl := Option.some.inj ho
        have o5 : ρ (.tmp 5) = .bool false := hout (.tmp 5) rfl
        have ocn : ∀ v, ρ (.const v) = v := fun v => hout (.const v) rfl
        have ofn : ∀ f, ρ (.func f) = .func (.func f) #[] #[] := fun f => hout (.func f) rfl
        clear hdep hout
        refine .inl ⟨?_, ?_⟩
        · rfl
        show Gives _ _ _ (.bool false) _
        refine Gives.val ?_
        go_simp
      rcases i with _ | i
      · obtain rfl := Option.some.inj ho
        have e0 : ρ (.tmp 44) = .bool false := (hdep ⟨0, .data⟩ (by simp) rfl).1 44 rfl
        have ocn : ∀ v, ρ (.const v) = v := fun v => hout (.const v) rfl
        have ofn : ∀ f, ρ (.func f) = .func (.func f) #[] #[] := fun f => hout (.func f) rfl
        clear hdep hout
        refine .inl ⟨?_, ?_⟩
        · rfl
        show Gives _ _ _ (.bool false) _
        refine Gives.val ?_
        go_simp
      rcases i with _ | i
      · obtain rfl := Option.some.inj ho
        have o0 : ρ (.tmp 0) = .slice p pn cap := hout (.tmp 0) rfl
        have yg : y 1 = some false := (hdep ⟨1, .guard⟩ (by simp) rfl).2 45 rfl
        have ocn : ∀ v, ρ (.const v) = v := fun v => hout (.const v) rfl
        have ofn : ∀ f, ρ (.func f) = .func (.func f) #[] #[] := fun f => hout (.func f) rfl
        clear hdep hout
        refine .inr ⟨?_, rfl⟩
        show (y 1 == some true) = false
        rw [yg]; rfl
      rcases i with _ | i
      · obtain rfl := Option.some.inj ho
        have o3 : ρ (.tmp 3) = .pointer (some ⟨x0.heap.size, 0, none⟩) := hout (.tmp 3) rfl
        have yg : y 1 = some false := (hdep ⟨1, .guard⟩ (by simp) rfl).2 45 rfl
        have ocn : ∀ v, ρ (.const v) = v := fun v => hout (.const v) rfl
        have ofn : ∀ f, ρ (.func f) = .func (.func f) #[] #[] := fun f => hout (.func f) rfl
        clear hdep hout
        refine .inr ⟨?_, rfl⟩
        show (y 1 == some true) = false
        rw [yg]; rfl
      rcases i with _ | i
      · obtain rfl := Option.some.inj ho
        have e3 : ρ (.tmp 47) = undef := (hdep ⟨3, .data⟩ (by simp) rfl).1 47 rfl
        have yg : y 1 = some false := (hdep ⟨1, .guard⟩ (by simp) rfl).2 45 rfl
        have ocn : ∀ v, ρ (.const v) = v := fun v => hout (.const v) rfl
        have ofn : ∀ f, ρ (.func f) = .func (.func f) #[] #[] := fun f => hout (.func f) rfl
        clear hdep hout
        refine .inr ⟨?_, rfl⟩
        show (y 1 == some true) = false
        rw [yg]; rfl
      rcases i with _ | i
      · obtain rfl := Option.some.inj ho
        have e2 : ρ (.tmp 46) = undef := (hdep ⟨2, .data⟩ (by simp) rfl).1 46 rfl
        have e4 : ρ (.tmp 48) = undef := (hdep ⟨4, .data⟩ (by simp) rfl).1 48 rfl
        have yg : y 1 = some false := (hdep ⟨1, .guard⟩ (by simp) rfl).2 45 rfl
        have ocn : ∀ v, ρ (.const v) = v := fun v => hout (.const v) rfl
        have ofn : ∀ f, ρ (.func f) = .func (.func f) #[] #[] := fun f => hout (.func f) rfl
        clear hdep hout
        refine .inr ⟨?_, rfl⟩
        show (y 1 == some true) = false
        rw [yg]; rfl
      rcases i with _ | i
      · obtain rfl := Option.some.inj ho
        have e1 : ρ (.tmp 45) = .bool false := (hdep ⟨1, .data⟩ (by simp) rfl).1 45 rfl
        have e5 : ρ (.tmp 49) = undef := (hdep ⟨5, .data⟩ (by simp) rfl).1 49 rfl
        have ocn : ∀ v, ρ (.const v) = v := fun v => hout (.const v) rfl
        have ofn : ∀ f, ρ (.func f) = .func (.func f) #[] #[] := fun f => hout (.func f) rfl
        clear hdep hout
        refine .inl ⟨?_, ?_⟩
        · rfl
        show Gives _ _ _ (.bool false) _
        refine Gives.val ?_
        go_simp
      rcases i with _ | i
      · obtain rfl := Option.some.inj ho
        have e6 : ρ (.tmp 50) = .bool false := (hdep ⟨6, .data⟩ (by simp) rfl).1 50 rfl
        have ocn : ∀ v, ρ (.const v) = v := fun v => hout (.const v) rfl
        have ofn : ∀ f, ρ (.func f) = .func (.func f) #[] #[] := fun f => hout (.func f) rfl
        clear hdep hout
        refine .inl ⟨?_, ?_⟩
        · rfl
        show Gives _ _ _ (.bool false) _
        refine Gives.val ?_
        go_simp
      rcases i with _ | i
      · obtain rfl := Option.some.inj ho
        have o3 : ρ (.tmp 3) = .pointer (some ⟨x0.heap.size, 0, none⟩) := hout (.tmp 3) rfl
        have yg : y 7 = some false := (hdep ⟨7, .guard⟩ (by simp) rfl).2 51 rfl
        have ocn : ∀ v, ρ (.const v) = v := fun v => hout (.const v) rfl
        have ofn : ∀ f, ρ (.func f) = .func (.func f) #[] #[] := fun f => hout (.func f) rfl
        clear hdep hout
        refine .inr ⟨?_, rfl⟩
        show (y 7 == some true) = false
        rw [yg]; rfl
      rcases i with _ | i
      · obtain rfl := Option.some.inj ho
        have e8 : ρ (.tmp 52) = undef := (hdep ⟨8, .data⟩ (by simp) rfl).1 52 rfl
        have yg : y 7 = some false := (hdep ⟨7, .guard⟩ (by simp) rfl).2 51 rfl
        have ocn : ∀ v, ρ (.const v) = v := fun v => hout (.const v) rfl
        have ofn : ∀ f, ρ (.func f) = .func (.func f) #[] #[] := fun f => hout (.func f) rfl
        clear hdep hout
        refine .inr ⟨?_, rfl⟩
        show (y 7 == some true) = false
        rw [yg]; rfl
      rcases i with _ | i
      · obtain rfl := Option.some.inj ho
        have o3 : ρ (.tmp 3) = .pointer (some ⟨x0.heap.size, 0, none⟩) := hout (.tmp 3) rfl
        have yg : y 7 = some false := (hdep ⟨7, .guard⟩ (by simp) rfl).2 51 rfl
        have ocn : ∀ v, ρ (.const v) = v := fun v => hout (.const v) rfl
        have ofn : ∀ f, ρ (.func f) = .func (.func f) #[] #[] := fun f => hout (.func f) rfl
        clear hdep hout
        refine .inr ⟨?_, rfl⟩
        show (y 7 == some true) = false
        rw [yg]; rfl
      rcases i with _ | i
      · obtain rfl := Option.some.inj ho
        have e9 : ρ (.tmp 53) = undef := (hdep ⟨9, .data⟩ (by simp) rfl).1 53 rfl
        have e10 : ρ (.tmp 54) = undef := (hdep ⟨10, .data⟩ (by simp) rfl).1 54 rfl
        have yg : y 7 = some false := (hdep ⟨7, .guard⟩ (by simp) rfl).2 51 rfl
        have ocn : ∀ v, ρ (.const v) = v := fun v => hout (.const v) rfl
        have ofn : ∀ f, ρ (.func f) = .func (.func f) #[] #[] := fun f => hout (.func f) rfl
        clear hdep hout
        refine .inr ⟨?_, rfl⟩
        show (y 7 == some true) = false
        rw [yg]; rfl
      rcases i with _ | i
      · obtain rfl := Option.some.inj ho
        have e7 : ρ (.tmp 51) = .bool false := (hdep ⟨7, .data⟩ (by simp) rfl).1 51 rfl
        have e11 : ρ (.tmp 55) = undef := (hdep ⟨11, .data⟩ (by simp) rfl).1 55 rfl
        have ocn : ∀ v, ρ (.const v) = v := fun v => hout (.const v) rfl
        have ofn : ∀ f, ρ (.func f) = .func (.func f) #[] #[] := fun f => hout (.func f) rfl
        clear hdep hout
        refine .inl ⟨?_, ?_⟩
        · rfl
        show Gives _ _ _ (.bool false) _
        refine Gives.val ?_
        go_simp
      rcases i with _ | i
      · obtain rfl := Option.some.inj ho
        have e12 : ρ (.tmp 56) = .bool false := (hdep ⟨12, .data⟩ (by simp) rfl).1 56 rfl
        have ocn : ∀ v, ρ (.const v) = v := fun v => hout (.const v) rfl
        have ofn : ∀ f, ρ (.func f) = .func (.func f) #[] #[] := fun f => hout (.func f) rfl
        clear hdep hout
        refine .inl ⟨?_, ?_⟩
        · rfl
        show Gives _ _ _ (.bool false) _
        refine Gives.val ?_
        go_simp
      cases ho
    case fin =>
      intro x hBx
      have hBf := HAl.out.trans (hBx.mono HAl.out.size)
      go_wp2_with fail
      go_ret
      exact ⟨retBool (by have hfl := HFN.out.1; first | (simp [endF, noSite, HFN.out.1, ho]; done) | (simp [endF, noSite, HFN.out.1, ho]; intros; omega) | (simp_all [endF, noSite]; done) | (simp_all [endF, noSite] <;> omega)), hBf⟩
  · by_cases e1 : n2 = 1
    · subst e1
      go_enter Try.func55, Try.ntmps55
      go_wp2_with fail
      go_ret
      exact ⟨retBool (by have hfl := HFN.out.1; first | (simp [endF, noSite, HFN.out.1, ho]; done) | (simp [endF, noSite, HFN.out.1, ho]; intros; omega) | (simp_all [endF, noSite]; done) | (simp_all [endF, noSite] <;> omega)), by first | exact (Below.refl _ _).alloc (Nat.le_refl _) _ | go_grown⟩
    · go_enter Try.func55, Try.ntmps55
      go_wp2_with fail
      all_goals
        go_ret
        exact ⟨retBool (by have hfl := HFN.out.1; first | (simp [endF, noSite, HFN.out.1, ho, e1, e2, *]; done) | (simp [endF, noSite, HFN.out.1, ho, e1, e2, *]; intros; omega) | (simp_all [endF, noSite]; done) | (simp_all [endF, noSite] <;> omega)), by first | exact (Below.refl _ _).alloc (Nat.le_refl _) _ | go_grown⟩

set_option maxRecDepth 100000 in
set_option maxHeartbeats 8000000 in
theorem endOk_S3G2 (x0 : World) (B : Nat) (v : Value) (P : List (List I4)) (h : ProgAt x0 B v P) (hok : progOkF P = true) (s : Value) (F : List Fr) (hF : FrsAt x0 s F) (hl5 : F.length ≤ 5) (n1 n2 n3 n4 n5 n6 : Int) (hs0 : n4 = 0) (hs1 : n5 = 0) (hs2 : n6 = 0) (hg : 0 < F.length) (ho : n3 = 0) :
    Calls Try.prog 55 #[v, aggRun s (n1, n2, n3, n4, n5, n6)] x0 fun e y => e = .returned (.bool (endF P F n2 n3 (n4, n5, n6))) ∧ Below x0.heap.size x0 y := by
  obtain ⟨p, cap, rfl, _⟩ := h.shape
  obtain ⟨ps, cs, rfl, _⟩ := hF.shape
  unfold aggRun
  dsimp only
  have H : Hid (ProgAt x0 B (.slice p P.length cap) P) := h
  have HOK : Hid (progOkF P = true) := hok
  have HS : Hid (FrsAt x0 (.slice ps F.length cs) F) := hF
  have hl := progOkF_len hok
  have hn4 : (P.length : Int) ≤ 4 := by omega
  have hf5 : (F.length : Int) ≤ 5 := by omega
  clear h hok hF hl
  subst hs0
  subst hs1
  subst hs2
  subst ho
  generalize hfn : F.length = fn at *
  generalize hpn : P.length = pn at *
  have HFN : Hid (F.length = fn ∧ P.length = pn) := ⟨hfn, hpn⟩
  clear hfn hpn
  have hgi : (0 : Int) < (fn : Int) := by omega
  by_cases e2 : n2 = 2
  · subst e2
    have HAl : Hid (Below x0.heap.size x0 (x0.alloc (.cells #[.slice ps fn cs, .int .i64 n1, .int .i64 2, .int .i64 0, .int .i64 0, .int .i64 0, .int .i64 0] 56))) := (Below.refl _ _).alloc (Nat.le_refl _) _
    have K00 : Hid (BxN (x0.alloc (.cells #[.slice ps fn cs, .int .i64 n1, .int .i64 2, .int .i64 0, .int .i64 0, .int .i64 0, .int .i64 0] 56)) x0.heap.size [.slice ps fn cs, .int .i64 n1, .int .i64 2, .int .i64 0, .int .i64 0, .int .i64 0, .int .i64 0]) := BxN.new x0 [_, _, _, _, _, _, _] _
    go_enter Try.func55, Try.ntmps55
    go_wp2_with fail
    generalize x0.alloc (.cells #[.slice ps fn cs, .int .i64 n1, .int .i64 2, .int .i64 0, .int .i64 0, .int .i64 0, .int .i64 0] 56) = X at HAl K00 ⊢
    cases hso : siteOkF P (0, 0, 0)
    · skip
      have HSO : Hid (∀ z : World, Below x0.heap.size x0 z → Calls Try.prog 80 #[.slice p pn cap, .agg #[.int .i64 0, .int .i64 0, .int .i64 0]] z fun e y => e = .returned (.bool false) ∧ Below z.heap.size z y) := fun z hz => by
        have := siteOk_any z B (.slice p pn cap) P (H.out.later hz) HOK.out (0, 0, 0)
        rw [hso] at this; exact this
      refine wp_region_vals (by kernel_rfl) (by kernel_rfl) (by kernel_rfl) (by kernel_rfl) (fun j => [.bool true, .bool true, .slice p pn cap, .pointer (some ⟨x0.heap.size, 4, none⟩), .agg #[.int .i64 0, .int .i64 0, .int .i64 0], .bool false, .bool false, .bool false, undef, undef, undef, undef, .bool false, .bool false].getD j undef) X (Below.drew (Below.refl _ _)) ?step ⟨#[.slice p pn cap, .agg #[.slice ps fn cs, .int .i64 n1, .int .i64 2, .int .i64 0, .int .i64 0, .int .i64 0, .int .i64 0], undef, .pointer (some ⟨x0.heap.size, 0, none⟩), .bool false, .bool true, .bool true, .pointer (some ⟨x0.heap.size, 0, none⟩), .slice ps fn cs, .int .i64 ↑fn, .bool true, .bool true, .pointer (some ⟨x0.heap.size, 3, none⟩), .int .i64 0, .bool true, .bool true, .pointer (some ⟨x0.heap.size, 4, none⟩), .agg #[.int .i64 0, .int .i64 0, .int .i64 0], .agg #[.int .i64 0, .int .i64 0, .int .i64 0], .bool true, .pointer (some ⟨x0.heap.size, 2, none⟩), .int .i64 2, .bool false, .bool false, undef, undef, undef, undef, .bool false, .bool false, undef, undef, undef, undef, undef, undef, undef, undef, undef, undef, undef, undef, .bool true, .bool true, .bool true, .bool true, .slice p pn cap, .pointer (some ⟨x0.heap.size, 4, none⟩), .agg #[.int .i64 0, .int .i64 0, .int .i64 0], .bool false, .bool false, .bool false, undef, undef, undef, undef, .bool false, undef, undef, undef, undef, undef, undef, undef, undef, undef, undef, undef, undef], []⟩ (by kernel_rfl) ?fin
      case step =>
        intro i o ho ρ y x hBx hdep hout
        rcases i with _ | i
        · obtain rfl := Option.some.inj ho
          have o5 : ρ (.tmp 5) = .bool true := hout (.tmp 5) rfl
          have ocn : ∀ v, ρ (.const v) = v := fun v => hout (.const v) rfl
          have ofn : ∀ f, ρ (.func f) = .func (.func f) #[] #[] := fun f => hout (.func f) rfl
          clear hdep hout
          refine .inl ⟨?_, ?_⟩
          · rfl
          show Gives _ _ _ (.bool true) _
          refine Gives.val ?_
          go_simp
        rcases i with _ | i
        · obtain rfl := Option.some.inj ho
          have e0 : ρ (.tmp 44) = .bool true := (hdep ⟨0, .data⟩ (by simp) rfl).1 44 rfl
          have ocn : ∀ v, ρ (.const v) = v := fun v => hout (.const v) rfl
          have ofn : ∀ f, ρ (.func f) = .func (.func f) #[] #[] := fun f => hout (.func f) rfl
          clear hdep hout
          refine .inl ⟨?_, ?_⟩
          · rfl
          show Gives _ _ _ (.bool true) _
          refine Gives.val ?_
          go_simp
        rcases i with _ | i
        · obtain rfl := Option.some.inj ho
          have o0 : ρ (.tmp 0) = .slice p pn cap := hout (.tmp 0) rfl
          have yg : y 1 = some true := (hdep ⟨1, .guard⟩ (by simp) rfl).2 45 rfl
          have ocn : ∀ v, ρ (.const v) = v := fun v => hout (.const v) rfl
          have ofn : ∀ f, ρ (.func f) = .func (.func f) #[] #[] := fun f => hout (.func f) rfl
          clear hdep hout
          refine .inl ⟨?_, ?_⟩
          · show (y 1 == some true) = true
            rw [yg]; rfl
          show Gives _ _ _ (.slice p pn cap) _
          refine Gives.val ?_
          go_simp
        rcases i with _ | i
        · obtain rfl := Option.some.inj ho
          have o3 : ρ (.tmp 3) = .pointer (some ⟨x0.heap.size, 0, none⟩) := hout (.tmp 3) rfl
          have yg : y 1 = some true := (hdep ⟨1, .guard⟩ (by simp) rfl).2 45 rfl
          have ocn : ∀ v, ρ (.const v) = v := fun v => hout (.const v) rfl
          have ofn : ∀ f, ρ (.func f) = .func (.func f) #[] #[] := fun f => hout (.func f) rfl
          clear hdep hout
          refine .inl ⟨?_, ?_⟩
          · show (y 1 == some true) = true
            rw [yg]; rfl
          show Gives _ _ _ (.pointer (some ⟨x0.heap.size, 4, none⟩)) _
          refine Gives.val ?_
          go_simp
        rcases i with _ | i
        · obtain rfl := Option.some.inj ho
          have e3 : ρ (.tmp 47) = .pointer (some ⟨x0.heap.size, 4, none⟩) := (hdep ⟨3, .data⟩ (by simp) rfl).1 47 rfl
          have yg : y 1 = some true := (hdep ⟨1, .guard⟩ (by simp) rfl).2 45 rfl
          have ocn : ∀ v, ρ (.const v) = v := fun v => hout (.const v) rfl
          have ofn : ∀ f, ρ (.func f) = .func (.func f) #[] #[] := fun f => hout (.func f) rfl
          clear hdep hout
          refine .inl ⟨?_, ?_⟩
          · show (y 1 == some true) = true
            rw [yg]; rfl
          have kb := K00.out.later hBx
          have c0 := kb.c 0 _ rfl
          have c3 := kb.c 3 _ rfl
          have c4 := kb.c 4 _ rfl
          have c5 := kb.c 5 _ rfl
          have c6 := kb.c 6 _ rfl
          have cl0 := kb.lt
          show Gives _ _ _ (.agg #[.int .i64 0, .int .i64 0, .int .i64 0]) _
          refine Gives.val ?_
          go_simp
        rcases i with _ | i
        · obtain rfl := Option.some.inj ho
          have e2 : ρ (.tmp 46) = .slice p pn cap := (hdep ⟨2, .data⟩ (by simp) rfl).1 46 rfl
          have e4 : ρ (.tmp 48) = .agg #[.int .i64 0, .int .i64 0, .int .i64 0] := (hdep ⟨4, .data⟩ (by simp) rfl).1 48 rfl
          have yg : y 1 = some true := (hdep ⟨1, .guard⟩ (by simp) rfl).2 45 rfl
          have ocn : ∀ v, ρ (.const v) = v := fun v => hout (.const v) rfl
          have ofn : ∀ f, ρ (.func f) = .func (.func f) #[] #[] := fun f => hout (.func f) rfl
          clear hdep hout
          refine .inl ⟨?_, ?_⟩
          · show (y 1 == some true) = true
            rw [yg]; rfl
          show Gives _ _ _ (.bool false) _
          refine Gives.call (HSO.out x (HAl.out.trans (hBx.mono HAl.out.size))) ?_
          go_simp
        rcases i with _ | i
        · obtain rfl := Option.some.inj ho
          have e1 : ρ (.tmp 45) = .bool true := (hdep ⟨1, .data⟩ (by simp) rfl).1 45 rfl
          have e5 : ρ (.tmp 49) = .bool false := (hdep ⟨5, .data⟩ (by simp) rfl).1 49 rfl
          have ocn : ∀ v, ρ (.const v) = v := fun v => hout (.const v) rfl
          have ofn : ∀ f, ρ (.func f) = .func (.func f) #[] #[] := fun f => hout (.func f) rfl
          clear hdep hout
          refine .inl ⟨?_, ?_⟩
          · rfl
          show Gives _ _ _ (.bool false) _
          refine Gives.val ?_
          go_simp
        rcases i with _ | i
        · obtain rfl := Option.some.inj ho
          have e6 : ρ (.tmp 50) = .bool false := (hdep ⟨6, .data⟩ (by simp) rfl).1 50 rfl
          have ocn : ∀ v, ρ (.const v) = v := fun v => hout (.const v) rfl
          have ofn : ∀ f, ρ (.func f) = .func (.func f) #[] #[] := fun f => hout (.func f) rfl
          clear hdep hout
          refine .inl ⟨?_, ?_⟩
          · rfl
          show Gives _ _ _ (.bool false) _
          refine Gives.val ?_
          go_simp
        rcases i with _ | i
        · obtain rfl := Option.some.inj ho
          have o3 : ρ (.tmp 3) = .pointer (some ⟨x0.heap.size, 0, none⟩) := hout (.tmp 3) rfl
          have yg : y 7 = some false := (hdep ⟨7, .guard⟩ (by simp) rfl).2 51 rfl
          have ocn : ∀ v, ρ (.const v) = v := fun v => hout (.const v) rfl
          have ofn : ∀ f, ρ (.func f) = .func (.func f) #[] #[] := fun f => hout (.func f) rfl
          clear hdep hout
          refine .inr ⟨?_, rfl⟩
          show (y 7 == some true) = false
          rw [yg]; rfl
        rcases i with _ | i
        · obtain rfl := Option.some.inj ho
          have e8 : ρ (.tmp 52) = undef := (hdep ⟨8, .data⟩ (by simp) rfl).1 52 rfl
          have yg : y 7 = some false := (hdep ⟨7, .guard⟩ (by simp) rfl).2 51 rfl
          have ocn : ∀ v, ρ (.const v) = v := fun v => hout (.const v) rfl
          have ofn : ∀ f, ρ (.func f) = .func (.func f) #[] #[] := fun f => hout (.func f) rfl
          clear hdep hout
          refine .inr ⟨?_, rfl⟩
          show (y 7 == some true) = false
          rw [yg]; rfl
        rcases i with _ | i
        · obtain rfl := Option.some.inj ho
          have o3 : ρ (.tmp 3) = .pointer (some ⟨x0.heap.size, 0, none⟩) := hout (.tmp 3) rfl
          have yg : y 7 = some false := (hdep ⟨7, .guard⟩ (by simp) rfl).2 51 rfl
          have ocn : ∀ v, ρ (.const v) = v := fun v => hout (.const v) rfl
          have ofn : ∀ f, ρ (.func f) = .func (.func f) #[] #[] := fun f => hout (.func f) rfl
          clear hdep hout
          refine .inr ⟨?_, rfl⟩
          show (y 7 == some true) = false
          rw [yg]; rfl
        rcases i with _ | i
        · obtain rfl := Option.some.inj ho
          have e9 : ρ (.tmp 53) = undef := (hdep ⟨9, .data⟩ (by simp) rfl).1 53 rfl
          have e10 : ρ (.tmp 54) = undef := (hdep ⟨10, .data⟩ (by simp) rfl).1 54 rfl
          have yg : y 7 = some false := (hdep ⟨7, .guard⟩ (by simp) rfl).2 51 rfl
          have ocn : ∀ v, ρ (.const v) = v := fun v => hout (.const v) rfl
          have ofn : ∀ f, ρ (.func f) = .func (.func f) #[] #[] := fun f => hout (.func f) rfl
          clear hdep hout
          refine .inr ⟨?_, rfl⟩
          show (y 7 == some true) = false
          rw [yg]; rfl
        rcases i with _ | i
        · obtain rfl := Option.some.inj ho
          have e7 : ρ (.tmp 51) = .bool false := (hdep ⟨7, .data⟩ (by simp) rfl).1 51 rfl
          have e11 : ρ (.tmp 55) = undef := (hdep ⟨11, .data⟩ (by simp) rfl).1 55 rfl
          have ocn : ∀ v, ρ (.const v) = v := fun v => hout (.const v) rfl
          have ofn : ∀ f, ρ (.func f) = .func (.func f) #[] #[] := fun f => hout (.func f) rfl
          clear hdep hout
          refine .inl ⟨?_, ?_⟩
          · rfl
          show Gives _ _ _ (.bool false) _
          refine Gives.val ?_
          go_simp
        rcases i with _ | i
        · obtain rfl := Option.some.inj ho
          have e12 : ρ (.tmp 56) = .bool false := (hdep ⟨12, .data⟩ (by simp) rfl).1 56 rfl
          have ocn : ∀ v, ρ (.const v) = v := fun v => hout (.const v) rfl
          have ofn : ∀ f, ρ (.func f) = .func (.func f) #[] #[] := fun f => hout (.func f) rfl
          clear hdep hout
          refine .inl ⟨?_, ?_⟩
          · rfl
          show Gives _ _ _ (.bool false) _
          refine Gives.val ?_
          go_simp
        cases ho
      case fin =>
        intro x hBx
        have hBf := HAl.out.trans (hBx.mono HAl.out.size)
        go_wp2_with fail
        go_ret
        exact ⟨retBool (by have hfl := HFN.out.1; first | (simp [endF, noSite, HFN.out.1, hg, hso]; done) | (simp [endF, noSite, HFN.out.1, hg, hso]; intros; omega) | (simp_all [endF, noSite]; done) | (simp_all [endF, noSite] <;> omega)), hBf⟩
    · skip
      have HSO : Hid (∀ z : World, Below x0.heap.size x0 z → Calls Try.prog 80 #[.slice p pn cap, .agg #[.int .i64 0, .int .i64 0, .int .i64 0]] z fun e y => e = .returned (.bool true) ∧ Below z.heap.size z y) := fun z hz => by
        have := siteOk_any z B (.slice p pn cap) P (H.out.later hz) HOK.out (0, 0, 0)
        rw [hso] at this; exact this
      obtain ⟨g, o, hp, hgx, hfr⟩ := FrsAt.frame (p := ps) (cap := cs) (F := F) (j := F.length - 1) (by have := HS.out; rw [← HFN.out.1] at this; exact this) (by rw [HFN.out.1]; omega)
      subst hp
      have HT : Hid ((F.getD (F.length - 1) fr0) = topF F) := rfl
      rw [HT.out] at hfr
      rw [HFN.out.1] at hfr
      have t0 := hfr.c0
      have t2 := hfr.c2
      have HTP : Hid (∀ z : World, Below X.heap.size X z → Calls Try.prog 82 #[.pointer (some ⟨x0.heap.size, 0, none⟩)] z fun e y => e = .returned (.pointer (some ⟨g, o + (fn - 1) * 6, none⟩)) ∧ Below z.heap.size z y) := fun z hz => by
        have kb := K00.out.later hz
        exact top_any z x0.heap.size g o fn cs (kb.c 0 _ rfl) hg (by have := HFN.out.1; omega) kb.lt (Nat.lt_of_lt_of_le hgx (HAl.out.trans (hz.mono HAl.out.size)).size)
      have HIS : Hid (∀ z : World, Below X.heap.size X z → Calls Try.prog 81 #[.agg #[.int .i64 0, .int .i64 0, .int .i64 0], .pointer (some ⟨g, o + (fn - 1) * 6, none⟩)] z fun e y => e = .returned (.bool (decide (0 = (topF F).p) && decide (0 = (topF F).t))) ∧ Below z.heap.size z y) := fun z hz => by
        have hbz := HAl.out.trans (hz.mono HAl.out.size)
        exact isOf_any z g (o + (fn - 1) * 6) (topF F).p (topF F).t (0, 0, 0) ((hbz.cell (p := ⟨g, _, none⟩) hgx).trans t0) ((hbz.cell (p := ⟨g, _, none⟩) hgx).trans t2) (Nat.lt_of_lt_of_le hgx hbz.size)
      refine wp_region_vals (by kernel_rfl) (by kernel_rfl) (by kernel_rfl) (by kernel_rfl) (fun j => [.bool true, .bool true, .slice p pn cap, .pointer (some ⟨x0.heap.size, 4, none⟩), .agg #[.int .i64 0, .int .i64 0, .int .i64 0], .bool true, .bool true, .bool true, .pointer (some ⟨x0.heap.size, 4, none⟩), .agg #[.int .i64 0, .int .i64 0, .int .i64 0], .pointer (some ⟨g, o + (fn - 1) * 6, none⟩), .bool (decide (0 = (topF F).p) && decide (0 = (topF F).t)), .bool (decide (0 = (topF F).p) && decide (0 = (topF F).t)), .bool (decide (0 = (topF F).p) && decide (0 = (topF F).t))].getD j undef) X (Below.drew (Below.refl _ _)) ?step ⟨#[.slice p pn cap, .agg #[.slice (some ⟨g, o, none⟩) fn cs, .int .i64 n1, .int .i64 2, .int .i64 0, .int .i64 0, .int .i64 0, .int .i64 0], undef, .pointer (some ⟨x0.heap.size, 0, none⟩), .bool (decide (0 = (topF F).p) && decide (0 = (topF F).t)), .bool true, .bool true, .pointer (some ⟨x0.heap.size, 0, none⟩), .slice (some ⟨g, o, none⟩) fn cs, .int .i64 ↑fn, .bool true, .bool true, .pointer (some ⟨x0.heap.size, 3, none⟩), .int .i64 0, .bool true, .bool true, .pointer (some ⟨x0.heap.size, 4, none⟩), .agg #[.int .i64 0, .int .i64 0, .int .i64 0], .agg #[.int .i64 0, .int .i64 0, .int .i64 0], .bool true, .pointer (some ⟨x0.heap.size, 2, none⟩), .int .i64 2, .bool false, .bool false, undef, undef, undef, undef, .bool false, .bool false, undef, undef, undef, undef, undef, undef, undef, undef, undef, undef, undef, undef, .bool true, .bool true, .bool true, .bool true, .slice p pn cap, .pointer (some ⟨x0.heap.size, 4, none⟩), .agg #[.int .i64 0, .int .i64 0, .int .i64 0], .bool true, .bool true, .bool true, .pointer (some ⟨x0.heap.size, 4, none⟩), .agg #[.int .i64 0, .int .i64 0, .int .i64 0], .pointer (some ⟨g, o + (fn - 1) * 6, none⟩), .bool (decide (0 = (topF F).p) && decide (0 = (topF F).t)), .bool (decide (0 = (topF F).p) && decide (0 = (topF F).t)), undef, undef, undef, undef, undef, undef, undef, undef, undef, undef, undef, undef], []⟩ (by kernel_rfl) ?fin
      case step =>
        intro i o ho ρ y x hBx hdep hout
        rcases i with _ | i
        · obtain rfl := Option.some.inj ho
          have o5 : ρ (.tmp 5) = .bool true := hout (.tmp 5) rfl
          have ocn : ∀ v, ρ (.const v) = v := fun v => hout (.const v) rfl
          have ofn : ∀ f, ρ (.func f) = .func (.func f) #[] #[] := fun f => hout (.func f) rfl
          clear hdep hout
          refine .inl ⟨?_, ?_⟩
          · rfl
          show Gives _ _ _ (.bool true) _
          refine Gives.val ?_
          go_simp
        rcases i with _ | i
        · obtain rfl := Option.some.inj ho
          have e0 : ρ (.tmp 44) = .bool true := (hdep ⟨0, .data⟩ (by simp) rfl).1 44 rfl
          have ocn : ∀ v, ρ (.const v) = v := fun v => hout (.const v) rfl
          have ofn : ∀ f, ρ (.func f) = .func (.func f) #[] #[] := fun f => hout (.func f) rfl
          clear hdep hout
          refine .inl ⟨?_, ?_⟩
          · rfl
          show Gives _ _ _ (.bool true) _
          refine Gives.val ?_
          go_simp
        rcases i with _ | i
        · obtain rfl := Option.some.inj ho
          have o0 : ρ (.tmp 0) = .slice p pn cap := hout (.tmp 0) rfl
          have yg : y 1 = some true := (hdep ⟨1, .guard⟩ (by simp) rfl).2 45 rfl
          have ocn : ∀ v, ρ (.const v) = v := fun v => hout (.const v) rfl
          have ofn : ∀ f, ρ (.func f) = .func (.func f) #[] #[] := fun f => hout (.func f) rfl
          clear hdep hout
          refine .inl ⟨?_, ?_⟩
          · show (y 1 == some true) = true
            rw [yg]; rfl
          show Gives _ _ _ (.slice p pn cap) _
          refine Gives.val ?_
          go_simp
        rcases i with _ | i
        · obtain rfl := Option.some.inj ho
          have o3 : ρ (.tmp 3) = .pointer (some ⟨x0.heap.size, 0, none⟩) := hout (.tmp 3) rfl
          have yg : y 1 = some true := (hdep ⟨1, .guard⟩ (by simp) rfl).2 45 rfl
          have ocn : ∀ v, ρ (.const v) = v := fun v => hout (.const v) rfl
          have ofn : ∀ f, ρ (.func f) = .func (.func f) #[] #[] := fun f => hout (.func f) rfl
          clear hdep hout
          refine .inl ⟨?_, ?_⟩
          · show (y 1 == some true) = true
            rw [yg]; rfl
          show Gives _ _ _ (.pointer (some ⟨x0.heap.size, 4, none⟩)) _
          refine Gives.val ?_
          go_simp
        rcases i with _ | i
        · obtain rfl := Option.some.inj ho
          have e3 : ρ (.tmp 47) = .pointer (some ⟨x0.heap.size, 4, none⟩) := (hdep ⟨3, .data⟩ (by simp) rfl).1 47 rfl
          have yg : y 1 = some true := (hdep ⟨1, .guard⟩ (by simp) rfl).2 45 rfl
          have ocn : ∀ v, ρ (.const v) = v := fun v => hout (.const v) rfl
          have ofn : ∀ f, ρ (.func f) = .func (.func f) #[] #[] := fun f => hout (.func f) rfl
          clear hdep hout
          refine .inl ⟨?_, ?_⟩
          · show (y 1 == some true) = true
            rw [yg]; rfl
          have kb := K00.out.later hBx
          have c0 := kb.c 0 _ rfl
          have c3 := kb.c 3 _ rfl
          have c4 := kb.c 4 _ rfl
          have c5 := kb.c 5 _ rfl
          have c6 := kb.c 6 _ rfl
          have cl0 := kb.lt
          show Gives _ _ _ (.agg #[.int .i64 0, .int .i64 0, .int .i64 0]) _
          refine Gives.val ?_
          go_simp
        rcases i with _ | i
        · obtain rfl := Option.some.inj ho
          have e2 : ρ (.tmp 46) = .slice p pn cap := (hdep ⟨2, .data⟩ (by simp) rfl).1 46 rfl
          have e4 : ρ (.tmp 48) = .agg #[.int .i64 0, .int .i64 0, .int .i64 0] := (hdep ⟨4, .data⟩ (by simp) rfl).1 48 rfl
          have yg : y 1 = some true := (hdep ⟨1, .guard⟩ (by simp) rfl).2 45 rfl
          have ocn : ∀ v, ρ (.const v) = v := fun v => hout (.const v) rfl
          have ofn : ∀ f, ρ (.func f) = .func (.func f) #[] #[] := fun f => hout (.func f) rfl
          clear hdep hout
          refine .inl ⟨?_, ?_⟩
          · show (y 1 == some true) = true
            rw [yg]; rfl
          show Gives _ _ _ (.bool true) _
          refine Gives.call (HSO.out x (HAl.out.trans (hBx.mono HAl.out.size))) ?_
          go_simp
        rcases i with _ | i
        · obtain rfl := Option.some.inj ho
          have e1 : ρ (.tmp 45) = .bool true := (hdep ⟨1, .data⟩ (by simp) rfl).1 45 rfl
          have e5 : ρ (.tmp 49) = .bool true := (hdep ⟨5, .data⟩ (by simp) rfl).1 49 rfl
          have ocn : ∀ v, ρ (.const v) = v := fun v => hout (.const v) rfl
          have ofn : ∀ f, ρ (.func f) = .func (.func f) #[] #[] := fun f => hout (.func f) rfl
          clear hdep hout
          refine .inl ⟨?_, ?_⟩
          · rfl
          show Gives _ _ _ (.bool true) _
          refine Gives.val ?_
          go_simp
        rcases i with _ | i
        · obtain rfl := Option.some.inj ho
          have e6 : ρ (.tmp 50) = .bool true := (hdep ⟨6, .data⟩ (by simp) rfl).1 50 rfl
          have ocn : ∀ v, ρ (.const v) = v := fun v => hout (.const v) rfl
          have ofn : ∀ f, ρ (.func f) = .func (.func f) #[] #[] := fun f => hout (.func f) rfl
          clear hdep hout
          refine .inl ⟨?_, ?_⟩
          · rfl
          show Gives _ _ _ (.bool true) _
          refine Gives.val ?_
          go_simp
        rcases i with _ | i
        · obtain rfl := Option.some.inj ho
          have o3 : ρ (.tmp 3) = .pointer (some ⟨x0.heap.size, 0, none⟩) := hout (.tmp 3) rfl
          have yg : y 7 = some true := (hdep ⟨7, .guard⟩ (by simp) rfl).2 51 rfl
          have ocn : ∀ v, ρ (.const v) = v := fun v => hout (.const v) rfl
          have ofn : ∀ f, ρ (.func f) = .func (.func f) #[] #[] := fun f => hout (.func f) rfl
          clear hdep hout
          refine .inl ⟨?_, ?_⟩
          · show (y 7 == some true) = true
            rw [yg]; rfl
          show Gives _ _ _ (.pointer (some ⟨x0.heap.size, 4, none⟩)) _
          refine Gives.val ?_
          go_simp
        rcases i with _ | i
        · obtain rfl := Option.some.inj ho
          have e8 : ρ (.tmp 52) = .pointer (some ⟨x0.heap.size, 4, none⟩) := (hdep ⟨8, .data⟩ (by simp) rfl).1 52 rfl
          have yg : y 7 = some true := (hdep ⟨7, .guard⟩ (by simp) rfl).2 51 rfl
          have ocn : ∀ v, ρ (.const v) = v := fun v => hout (.const v) rfl
          have ofn : ∀ f, ρ (.func f) = .func (.func f) #[] #[] := fun f => hout (.func f) rfl
          clear hdep hout
          refine .inl ⟨?_, ?_⟩
          · show (y 7 == some true) = true
            rw [yg]; rfl
          have kb := K00.out.later hBx
          have c0 := kb.c 0 _ rfl
          have c3 := kb.c 3 _ rfl
          have c4 := kb.c 4 _ rfl
          have c5 := kb.c 5 _ rfl
          have c6 := kb.c 6 _ rfl
          have cl0 := kb.lt
          show Gives _ _ _ (.agg #[.int .i64 0, .int .i64 0, .int .i64 0]) _
          refine Gives.val ?_
          go_simp
        rcases i with _ | i
        · obtain rfl := Option.some.inj ho
          have o3 : ρ (.tmp 3) = .pointer (some ⟨x0.heap.size, 0, none⟩) := hout (.tmp 3) rfl
          have yg : y 7 = some true := (hdep ⟨7, .guard⟩ (by simp) rfl).2 51 rfl
          have ocn : ∀ v, ρ (.const v) = v := fun v => hout (.const v) rfl
          have ofn : ∀ f, ρ (.func f) = .func (.func f) #[] #[] := fun f => hout (.func f) rfl
          clear hdep hout
          refine .inl ⟨?_, ?_⟩
          · show (y 7 == some true) = true
            rw [yg]; rfl
          show Gives _ _ _ (.pointer (some ⟨g, o + (fn - 1) * 6, none⟩)) _
          refine Gives.call (HTP.out x hBx) ?_
          go_simp
        rcases i with _ | i
        · obtain rfl := Option.some.inj ho
          have e9 : ρ (.tmp 53) = .agg #[.int .i64 0, .int .i64 0, .int .i64 0] := (hdep ⟨9, .data⟩ (by simp) rfl).1 53 rfl
          have e10 : ρ (.tmp 54) = .pointer (some ⟨g, o + (fn - 1) * 6, none⟩) := (hdep ⟨10, .data⟩ (by simp) rfl).1 54 rfl
          have yg : y 7 = some true := (hdep ⟨7, .guard⟩ (by simp) rfl).2 51 rfl
          have ocn : ∀ v, ρ (.const v) = v := fun v => hout (.const v) rfl
          have ofn : ∀ f, ρ (.func f) = .func (.func f) #[] #[] := fun f => hout (.func f) rfl
          clear hdep hout
          refine .inl ⟨?_, ?_⟩
          · show (y 7 == some true) = true
            rw [yg]; rfl
          show Gives _ _ _ (.bool (decide (0 = (topF F).p) && decide (0 = (topF F).t))) _
          refine Gives.call (HIS.out x hBx) ?_
          go_simp
        rcases i with _ | i
        · obtain rfl := Option.some.inj ho
          have e7 : ρ (.tmp 51) = .bool true := (hdep ⟨7, .data⟩ (by simp) rfl).1 51 rfl
          have e11 : ρ (.tmp 55) = .bool (decide (0 = (topF F).p) && decide (0 = (topF F).t)) := (hdep ⟨11, .data⟩ (by simp) rfl).1 55 rfl
          have ocn : ∀ v, ρ (.const v) = v := fun v => hout (.const v) rfl
          have ofn : ∀ f, ρ (.func f) = .func (.func f) #[] #[] := fun f => hout (.func f) rfl
          clear hdep hout
          refine .inl ⟨?_, ?_⟩
          · rfl
          show Gives _ _ _ (.bool (decide (0 = (topF F).p) && decide (0 = (topF F).t))) _
          refine Gives.val ?_
          go_simp
        rcases i with _ | i
        · obtain rfl := Option.some.inj ho
          have e12 : ρ (.tmp 56) = .bool (decide (0 = (topF F).p) && decide (0 = (topF F).t)) := (hdep ⟨12, .data⟩ (by simp) rfl).1 56 rfl
          have ocn : ∀ v, ρ (.const v) = v := fun v => hout (.const v) rfl
          have ofn : ∀ f, ρ (.func f) = .func (.func f) #[] #[] := fun f => hout (.func f) rfl
          clear hdep hout
          refine .inl ⟨?_, ?_⟩
          · rfl
          show Gives _ _ _ (.bool (decide (0 = (topF F).p) && decide (0 = (topF F).t))) _
          refine Gives.val ?_
          go_simp
        cases ho
      case fin =>
        intro x hBx
        have hBf := HAl.out.trans (hBx.mono HAl.out.size)
        go_wp2_with fail
        go_ret
        exact ⟨retBool (by have hfl := HFN.out.1; first | (simp [endF, noSite, HFN.out.1, hg, hso]; done) | (simp [endF, noSite, HFN.out.1, hg, hso]; intros; omega) | (simp_all [endF, noSite]; done) | (simp_all [endF, noSite] <;> omega)), hBf⟩
  · by_cases e1 : n2 = 1
    · subst e1
      go_enter Try.func55, Try.ntmps55
      go_wp2_with fail
      go_ret
      exact ⟨retBool (by have hfl := HFN.out.1; first | (simp [endF, noSite, HFN.out.1, hg]; done) | (simp [endF, noSite, HFN.out.1, hg]; intros; omega) | (simp_all [endF, noSite]; done) | (simp_all [endF, noSite] <;> omega)), by first | exact (Below.refl _ _).alloc (Nat.le_refl _) _ | go_grown⟩
    · go_enter Try.func55, Try.ntmps55
      go_wp2_with fail
      all_goals
        go_ret
        exact ⟨retBool (by have hfl := HFN.out.1; first | (simp [endF, noSite, HFN.out.1, hg, e1, e2, *]; done) | (simp [endF, noSite, HFN.out.1, hg, e1, e2, *]; intros; omega) | (simp_all [endF, noSite]; done) | (simp_all [endF, noSite] <;> omega)), by first | exact (Below.refl _ _).alloc (Nat.le_refl _) _ | go_grown⟩

theorem endOk_any (x0 : World) (B : Nat) (v : Value) (P : List (List I4)) (h : ProgAt x0 B v P) (hok : progOkF P = true) (s : Value) (F : List Fr) (hF : FrsAt x0 s F) (hl5 : F.length ≤ 5) (q : R6) :
    Calls Try.prog 55 #[v, aggRun s q] x0 fun e y => e = .returned (.bool (endF P F q.2.1 q.2.2.1 q.2.2.2)) ∧ Below x0.heap.size x0 y := by
  obtain ⟨n1, n2, n3, n4, n5, n6⟩ := q
  by_cases h4 : n4 = 0
  · by_cases h5 : n5 = 0
    · by_cases h6 : n6 = 0
      · rcases Nat.eq_zero_or_pos F.length with hf | hf
        · exact endOk_S3G0 x0 B v P h hok s F hF hl5 n1 n2 n3 n4 n5 n6 h4 h5 h6 hf
        · by_cases ho : n3 = 0
          · exact endOk_S3G2 x0 B v P h hok s F hF hl5 n1 n2 n3 n4 n5 n6 h4 h5 h6 hf ho
          · exact endOk_S3G1 x0 B v P h hok s F hF hl5 n1 n2 n3 n4 n5 n6 h4 h5 h6 hf ho
      · rcases Nat.eq_zero_or_pos F.length with hf | hf
        · exact endOk_S2G0 x0 B v P h hok s F hF hl5 n1 n2 n3 n4 n5 n6 h4 h5 h6 hf
        · by_cases ho : n3 = 0
          · exact endOk_S2G2 x0 B v P h hok s F hF hl5 n1 n2 n3 n4 n5 n6 h4 h5 h6 hf ho
          · exact endOk_S2G1 x0 B v P h hok s F hF hl5 n1 n2 n3 n4 n5 n6 h4 h5 h6 hf ho
    · rcases Nat.eq_zero_or_pos F.length with hf | hf
      · exact endOk_S1G0 x0 B v P h hok s F hF hl5 n1 n2 n3 n4 n5 n6 h4 h5 hf
      · by_cases ho : n3 = 0
        · exact endOk_S1G2 x0 B v P h hok s F hF hl5 n1 n2 n3 n4 n5 n6 h4 h5 hf ho
        · exact endOk_S1G1 x0 B v P h hok s F hF hl5 n1 n2 n3 n4 n5 n6 h4 h5 hf ho
  · rcases Nat.eq_zero_or_pos F.length with hf | hf
    · exact endOk_S0G0 x0 B v P h hok s F hF hl5 n1 n2 n3 n4 n5 n6 h4 hf
    · by_cases ho : n3 = 0
      · exact endOk_S0G2 x0 B v P h hok s F hF hl5 n1 n2 n3 n4 n5 n6 h4 hf ho
      · exact endOk_S0G1 x0 B v P h hok s F hF hl5 n1 n2 n3 n4 n5 n6 h4 hf ho

end Go.Proofs.Ytbjegekfghihkaa

/-
  Whether a run is ok: the contract of the program's RunOk.
-/
namespace Go.Proofs.Ytbjegekfghihkaa
open Go.RowKit
set_option linter.unusedVariables false
set_option linter.unusedSimpArgs false

set_option maxRecDepth 100000 in
set_option maxHeartbeats 8000000 in
theorem runOk_impl (x0 : World) (B : Nat) (v : Value) (P : List (List I4)) (h : ProgAt x0 B v P) (s : Value) (F : List Fr) (hF : FrsAt x0 s F) (q : R6) :
    Calls Try.prog 25 #[v, aggRun s q] x0 fun e y => e = .returned (.bool (runF P F q.1 q.2.1 q.2.2.1 q.2.2.2)) ∧ Below x0.heap.size x0 y := by
  obtain ⟨n1, n2, n3, n4, n5, n6⟩ := q
  obtain ⟨p, cap, rfl, _⟩ := h.shape
  obtain ⟨ps, cs, rfl, hfm⟩ := hF.shape
  dsimp only
  have HRun : Hid (runF P F n1 n2 n3 (n4, n5, n6) = (progOkF P && decide (F.length ≤ 5) && inI n1 0 300 && F.all (frameF P) && endF P F n2 n3 (n4, n5, n6))) := rfl
  generalize hFF : runF P F n1 n2 n3 (n4, n5, n6) = FF at HRun
  unfold aggRun
  dsimp only
  unfold maxLen at hfm
  have hfi : (F.length : Int) ≤ 9223372036854775807 := by omega
  have H : Hid (ProgAt x0 B (.slice p P.length cap) P) := h
  have HS : Hid (FrsAt x0 (.slice ps F.length cs) F) := hF
  clear hFF h hF hfm
  go_enter Try.func25, Try.ntmps25
  go_wp2_with fail
  have HAl : Hid (Below x0.heap.size x0 (x0.alloc (.cells #[.slice ps F.length cs, .int .i64 n1, .int .i64 n2, .int .i64 n3, .int .i64 n4, .int .i64 n5, .int .i64 n6] 56))) := (Below.refl _ _).alloc (Nat.le_refl _) _
  have K00 : Hid (BxN (x0.alloc (.cells #[.slice ps F.length cs, .int .i64 n1, .int .i64 n2, .int .i64 n3, .int .i64 n4, .int .i64 n5, .int .i64 n6] 56)) x0.heap.size [.slice ps F.length cs, .int .i64 n1, .int .i64 n2, .int .i64 n3, .int .i64 n4, .int .i64 n5, .int .i64 n6]) := BxN.new x0 [_, _, _, _, _, _, _] _
  generalize x0.alloc (.cells #[.slice ps F.length cs, .int .i64 n1, .int .i64 n2, .int .i64 n3, .int .i64 n4, .int .i64 n5, .int .i64 n6] 56) = X at HAl K00 ⊢
  refine (progOk_impl X B _ P (H.out.later HAl.out)).mono ?_
  rintro e y ⟨rfl, hb⟩
  have HY : Hid (Below x0.heap.size x0 y) := HAl.out.trans (hb.mono HAl.out.size)
  have K1 := K00.out.laterH hb
  clear hb HAl K00
  cases hok : progOkF P
  · go_wp2_with fail
    go_ret
    exact ⟨retBool (by rw [HRun.out, hok]; rfl), HY.out⟩
  · have a0 := K1.out.c 0 _ rfl
    have a1 := K1.out.c 1 _ rfl
    have l0 := K1.out.lt
    by_cases h5 : F.length ≤ 5
    · have h5i : (F.length : Int) ≤ 5 := by omega
      by_cases h6 : 0 ≤ n1
      · by_cases h7 : n1 ≤ 300
        · have HO : Hid (progOkF P = true ∧ F.length ≤ 5) := ⟨hok, h5⟩
          have HR2 : Hid (FF = (F.all (frameF P) && endF P F n2 n3 (n4, n5, n6))) := by
            show FF = _
            rw [HRun.out, hok, show inI n1 0 300 = true by simp only [inI, Bool.and_eq_true, decide_eq_true_eq]; omega]; simp [h5]
          clear HRun hok
          generalize hfn : F.length = fn at *
          have HFN : Hid (F.length = fn) := hfn
          clear hfn
          go_wp2_with fail
          go_loopw [29] (fun t z => ∃ k : Nat, k ≤ fn ∧ t = .int .i64 k ∧ Hid (Below x0.heap.size x0 z ∧ BxN z x0.heap.size [.slice ps fn cs, .int .i64 n1, .int .i64 n2, .int .i64 n3, .int .i64 n4, .int .i64 n5, .int .i64 n6] ∧ (∀ j, j < k → frameF P (F.getD j fr0) = true))) (fun t _ => fn - (intOf t).toNat)
          case atStart => exact ⟨0, by omega, rfl, HY.out, K1.out, fun j hj => by omega⟩
          case round =>
            clear a0 a1 l0
            obtain ⟨k, hk, rfl, HZ⟩ := hrel
            have a0 := HZ.out.2.1.c 0 _ rfl
            have a1 := HZ.out.2.1.c 1 _ rfl
            have a2 := HZ.out.2.1.c 2 _ rfl
            have a3 := HZ.out.2.1.c 3 _ rfl
            have a4 := HZ.out.2.1.c 4 _ rfl
            have a5 := HZ.out.2.1.c 5 _ rfl
            have a6 := HZ.out.2.1.c 6 _ rfl
            have l0 := HZ.out.2.1.lt
            by_cases hlt : k < fn
            · obtain ⟨g, o, rfl, hgx, hfr⟩ := FrsAt.frame (p := ps) (cap := cs) (F := F) (j := k) (by have := HS.out; rw [← HFN.out] at this; exact this) (by rw [HFN.out]; exact hlt)
              have hki : (k : Int) < (fn : Int) := by omega
              have hgw : g < wr.heap.size := Nat.lt_of_lt_of_le hgx HZ.out.1.size
              obtain ⟨c0, c1, c2, ⟨u3, c3, i3⟩, ⟨u4, c4, i4⟩, c5⟩ := hfr.later HZ.out.1 hgx
              obtain ⟨p3, k3, rfl⟩ := i3.shape
              obtain ⟨p4, k4, rfl⟩ := i4.shape
              have I3 : Hid (IntsW wr (.slice p3 (F.getD k fr0).r.length k3) (F.getD k fr0).r) := i3
              have I4 : Hid (IntsW wr (.slice p4 (F.getD k fr0).c.length k4) (F.getD k fr0).c) := i4
              clear i3 i4 hfr
              generalize hf : F.getD k fr0 = f at *
              have HFk : Hid (F.getD k fr0 = f) := hf
              clear hf
              obtain ⟨m0, m1, m2, m5, R, C⟩ := f
              simp only at c0 c1 c2 c3 c4 c5 I3 I4
              generalize hrn : R.length = rn at *
              generalize hcn : C.length = cn at *
              clear hrn hcn
              have HCALL : Hid (∀ z : World, Below wr.heap.size wr z → Calls Try.prog 54 #[.slice p P.length cap, .agg #[.int .i64 m0, .int .i64 m1, .int .i64 m2, .slice p3 rn k3, .slice p4 cn k4, .int .i64 m5]] z fun e y => e = .returned (.bool (frameF P ⟨m0, m1, m2, m5, R, C⟩)) ∧ Below z.heap.size z y) := fun z hz =>
                frameOk_impl z B _ P ((H.out.later HZ.out.1).later hz) HO.out.1 ⟨m0, m1, m2, m5, R, C⟩ _ _ (I3.out.later hz) (I4.out.later hz)
              clear I3 I4
              go_wp2_with fail
              have hA2 : Below wr.heap.size wr (wr.alloc (.cells #[.int .i64 m0, .int .i64 m1, .int .i64 m2, .slice p3 rn k3, .slice p4 cn k4, .int .i64 m5] 99)) := (Below.refl _ _).alloc (Nat.le_refl _) _
              refine (HCALL.out _ hA2).mono ?_
              rintro e z ⟨rfl, hb⟩
              have hB3 := hA2.trans (hb.mono hA2.size)
              have hB2 := HZ.out.1.trans (hB3.mono HZ.out.1.size)
              clear hb hA2 HCALL
              cases hfo : frameF P ⟨m0, m1, m2, m5, R, C⟩
              · go_wp2_with fail
                go_ret
                exact ⟨retBool (by rw [HR2.out, allI_no fr0 (frameF P) (j := k) (by rw [HFN.out]; exact hlt) (by rw [HFk.out]; exact hfo)]; simp), hB2⟩
              · have HZ2 : Hid (Below x0.heap.size x0 z ∧ BxN z x0.heap.size [.slice (some ⟨g, o, none⟩) fn cs, .int .i64 n1, .int .i64 n2, .int .i64 n3, .int .i64 n4, .int .i64 n5, .int .i64 n6] ∧ (∀ j, j < k + 1 → frameF P (F.getD j fr0) = true)) := by
                  refine ⟨hB2, HZ.out.2.1.later hB3, fun j hj => ?_⟩
                  by_cases hjk : j = k
                  · subst hjk; rw [HFk.out]; exact hfo
                  · exact HZ.out.2.2 j (by omega)
                clear c0 c1 c2 c3 c4 c5 a0 a1 a2 a3 a4 a5 a6 l0
                go_wp2_with fail
                go_roundw
                case rel => exact ⟨k + 1, by omega, by go_num, HZ2⟩
                case measure => simp [intOf]; omega
            · obtain rfl : k = fn := by omega
              have hki : ¬ (k : Int) < (k : Int) := by omega
              have HEND : Hid (∀ z : World, Below wr.heap.size wr z → Calls Try.prog 55 #[.slice p P.length cap, .agg #[.slice ps k cs, .int .i64 n1, .int .i64 n2, .int .i64 n3, .int .i64 n4, .int .i64 n5, .int .i64 n6]] z fun e y => e = .returned (.bool (endF P F n2 n3 (n4, n5, n6))) ∧ Below z.heap.size z y) := fun z hz =>
                endOk_any z B _ P ((H.out.later HZ.out.1).later hz) HO.out.1 (.slice ps k cs) F ((HS.out.later HZ.out.1).later hz) (by rw [HFN.out]; omega) (n1, n2, n3, n4, n5, n6)
              go_wp2_with fail
              refine (HEND.out _ (Below.refl _ _)).mono ?_
              rintro e z ⟨rfl, hb⟩
              have hB2 := HZ.out.1.trans (hb.mono HZ.out.1.size)
              clear hb a0 a1 a2 a3 a4 a5 a6 l0
              go_wp2_with fail
              go_ret
              exact ⟨retBool (by rw [HR2.out, allI_yes fr0 (frameF P) (fun j hj => HZ.out.2.2 j (by rw [HFN.out] at hj; exact hj))]; simp), hB2⟩
        · have hr : inI n1 0 300 = false := by simp [inI]; omega
          clear HS
          generalize F.length = fn at *
          go_wp2_with fail
          go_ret
          exact ⟨retBool (by rw [HRun.out, hr]; simp), HY.out⟩
      · have hr : inI n1 0 300 = false := by simp [inI]; omega
        clear HS
        generalize F.length = fn at *
        go_wp2_with fail
        go_ret
        exact ⟨retBool (by rw [HRun.out, hr]; simp), HY.out⟩
    · have hr : decide (F.length ≤ 5) = false := by simp; omega
      have h5i : ¬ (F.length : Int) ≤ 5 := by omega
      have HR2 : Hid (FF = false) := by show FF = _; rw [HRun.out, hr]; simp
      clear HS HRun hr
      generalize F.length = fn at *
      go_wp2_with fail
      go_ret
      exact ⟨retBool HR2.out.symm, HY.out⟩

end Go.Proofs.Ytbjegekfghihkaa
