/-
  Whether a run is ok by its end: the contract of the program's endOk.
-/
import Derived.Test.YtifpijindmdboaaREndA
import Derived.Test.YtifpijindmdboaaREndB
import Derived.Test.YtifpijindmdboaaRTo2
import Derived.Test.YtifpijindmdboaaRSitS
namespace Go.Proofs.Ytifpijindmdboaa
open Go.RowKit
set_option linter.unusedVariables false
set_option linter.unusedSimpArgs false

set_option maxRecDepth 100000 in
set_option maxHeartbeats 8000000 in
theorem endOk_S0G0 (x0 : World) (B : Nat) (v : Value) (P : List (List I4)) (h : ProgAt x0 B v P) (hok : progOkF P = true) (s : Value) (F : List Fr) (hF : FrsAt x0 s F) (hl5 : F.length ≤ 5) (n1 n2 n3 n4 n5 n6 : Int) (hs : ¬ n4 = 0) (hg : F.length = 0) :
    Calls Try.prog 77 #[v, aggRun s (n1, n2, n3, n4, n5, n6)] x0 fun e y => e = .returned (.bool (endF P F n2 n3 (n4, n5, n6))) ∧ Below x0.heap.size x0 y := by
  obtain ⟨p, cap, rfl, _⟩ := h.shape
  obtain ⟨ps, cs, rfl, _⟩ := hF.shape
  unfold aggRun
  dsimp only
  have H : Hid (ProgAt x0 B (.slice p P.length cap) P) := h
  have HOK : Hid (progOkF P = true) := hok
  have HS : Hid (FrsAt x0 (.slice ps F.length cs) F) := hF
  have hl := progOkF_len hok
  have hn4 : (P.length : Int) ≤ 4 := by omega
  have hf5 : (F.length : Int) ≤ 5 := by omega
  clear h hok hF hl
  have hsb : (n4 == 0) = false := by simpa using hs
  generalize hfn : F.length = fn at *
  generalize hpn : P.length = pn at *
  have HFN : Hid (F.length = fn ∧ P.length = pn) := ⟨hfn, hpn⟩
  clear hfn hpn
  subst hg
  by_cases e2 : n2 = 2
  · subst e2
    have HAl : Hid (Below x0.heap.size x0 (x0.alloc (.cells #[.slice ps 0 cs, .int .i64 n1, .int .i64 2, .int .i64 n3, .int .i64 n4, .int .i64 n5, .int .i64 n6] 56))) := (Below.refl _ _).alloc (Nat.le_refl _) _
    have K00 : Hid (BxN (x0.alloc (.cells #[.slice ps 0 cs, .int .i64 n1, .int .i64 2, .int .i64 n3, .int .i64 n4, .int .i64 n5, .int .i64 n6] 56)) x0.heap.size [.slice ps 0 cs, .int .i64 n1, .int .i64 2, .int .i64 n3, .int .i64 n4, .int .i64 n5, .int .i64 n6]) := BxN.new x0 [_, _, _, _, _, _, _] _
    go_enter Try.func77, Try.ntmps77
    go_wp2_with fail
    generalize x0.alloc (.cells #[.slice ps 0 cs, .int .i64 n1, .int .i64 2, .int .i64 n3, .int .i64 n4, .int .i64 n5, .int .i64 n6] 56) = X at HAl K00 ⊢
    refine wp_region_vals (by kernel_rfl) (by kernel_rfl) (by kernel_rfl) (by kernel_rfl) (fun j => [.bool false, .bool false, undef, undef, undef, undef, .bool false, .bool false, undef, undef, undef, undef, .bool false, .bool false].getD j undef) X (Below.drew (Below.refl _ _)) ?step ⟨#[.slice p pn cap, .agg #[.slice ps 0 cs, .int .i64 n1, .int .i64 2, .int .i64 n3, .int .i64 n4, .int .i64 n5, .int .i64 n6], undef, .pointer (some ⟨x0.heap.size, 0, none⟩), .bool false, .bool false, .bool false, .pointer (some ⟨x0.heap.size, 0, none⟩), .slice ps 0 cs, .int .i64 0, .bool false, .bool false, undef, undef, undef, .bool false, .pointer (some ⟨x0.heap.size, 4, none⟩), .agg #[.int .i64 n4, .int .i64 n5, .int .i64 n6], .agg #[.int .i64 0, .int .i64 0, .int .i64 0], .bool false, .pointer (some ⟨x0.heap.size, 2, none⟩), .int .i64 2, .bool false, .bool false, undef, undef, undef, undef, .bool false, .bool false, undef, undef, undef, undef, undef, undef, undef, undef, undef, undef, undef, undef, .bool true, .bool true, .bool false, .bool false, undef, undef, undef, undef, .bool false, .bool false, undef, undef, undef, undef, .bool false, undef, undef, undef, undef, undef, undef, undef, undef, undef, undef, undef, undef], []⟩ (by kernel_rfl) ?fin
    case step =>
      intro i o ho ρ y x hBx hdep hout
      rcases i with _ | i
      · obtain rfl := Option.some.inj ho
        have o5 : ρ (.tmp 5) = .bool false := hout (.tmp 5) rfl
        have ocn : ∀ v, ρ (.const v) = v := fun v => hout (.const v) rfl
        have ofn : ∀ f, ρ (.func f) = .func (.func f) #[] #[] := fun f => hout (.func f) rfl
        clear hdep hout
        refine .inl ⟨?_, ?_⟩
        · rfl
        show Gives _ _ _ (.bool false) _
        refine Gives.val ?_
        go_simp
      rcases i with _ | i
      · obtain rfl := Option.some.inj ho
        have e0 : ρ (.tmp 44) = .bool false := (hdep ⟨0, .data⟩ (by simp) rfl).1 44 rfl
        have ocn : ∀ v, ρ (.const v) = v := fun v => hout (.const v) rfl
        have ofn : ∀ f, ρ (.func f) = .func (.func f) #[] #[] := fun f => hout (.func f) rfl
        clear hdep hout
        refine .inl ⟨?_, ?_⟩
        · rfl
        show Gives _ _ _ (.bool false) _
        refine Gives.val ?_
        go_simp
      rcases i with _ | i
      · obtain rfl := Option.some.inj ho
        have o0 : ρ (.tmp 0) = .slice p pn cap := hout (.tmp 0) rfl
        have yg : y 1 = some false := (hdep ⟨1, .guard⟩ (by simp) rfl).2 45 rfl
        have ocn : ∀ v, ρ (.const v) = v := fun v => hout (.const v) rfl
        have ofn : ∀ f, ρ (.func f) = .func (.func f) #[] #[] := fun f => hout (.func f) rfl
        clear hdep hout
        refine .inr ⟨?_, rfl⟩
        show (y 1 == some true) = false
        rw [yg]; rfl
      rcases i with _ | i
      · obtain rfl := Option.some.inj ho
        have o3 : ρ (.tmp 3) = .pointer (some ⟨x0.heap.size, 0, none⟩) := hout (.tmp 3) rfl
        have yg : y 1 = some false := (hdep ⟨1, .guard⟩ (by simp) rfl).2 45 rfl
        have ocn : ∀ v, ρ (.const v) = v := fun v => hout (.const v) rfl
        have ofn : ∀ f, ρ (.func f) = .func (.func f) #[] #[] := fun f => hout (.func f) rfl
        clear hdep hout
        refine .inr ⟨?_, rfl⟩
        show (y 1 == some true) = false
        rw [yg]; rfl
      rcases i with _ | i
      · obtain rfl := Option.some.inj ho
        have e3 : ρ (.tmp 47) = undef := (hdep ⟨3, .data⟩ (by simp) rfl).1 47 rfl
        have yg : y 1 = some false := (hdep ⟨1, .guard⟩ (by simp) rfl).2 45 rfl
        have ocn : ∀ v, ρ (.const v) = v := fun v => hout (.const v) rfl
        have ofn : ∀ f, ρ (.func f) = .func (.func f) #[] #[] := fun f => hout (.func f) rfl
        clear hdep hout
        refine .inr ⟨?_, rfl⟩
        show (y 1 == some true) = false
        rw [yg]; rfl
      rcases i with _ | i
      · obtain rfl := Option.some.inj ho
        have e2 : ρ (.tmp 46) = undef := (hdep ⟨2, .data⟩ (by simp) rfl).1 46 rfl
        have e4 : ρ (.tmp 48) = undef := (hdep ⟨4, .data⟩ (by simp) rfl).1 48 rfl
        have yg : y 1 = some false := (hdep ⟨1, .guard⟩ (by simp) rfl).2 45 rfl
        have ocn : ∀ v, ρ (.const v) = v := fun v => hout (.const v) rfl
        have ofn : ∀ f, ρ (.func f) = .func (.func f) #[] #[] := fun f => hout (.func f) rfl
        clear hdep hout
        refine .inr ⟨?_, rfl⟩
        show (y 1 == some true) = false
        rw [yg]; rfl
      rcases i with _ | i
      · obtain rfl := Option.some.inj ho
        have e1 : ρ (.tmp 45) = .bool false := (hdep ⟨1, .data⟩ (by simp) rfl).1 45 rfl
        have e5 : ρ (.tmp 49) = undef := (hdep ⟨5, .data⟩ (by simp) rfl).1 49 rfl
        have ocn : ∀ v, ρ (.const v) = v := fun v => hout (.const v) rfl
        have ofn : ∀ f, ρ (.func f) = .func (.func f) #[] #[] := fun f => hout (.func f) rfl
        clear hdep hout
        refine .inl ⟨?_, ?_⟩
        · rfl
        show Gives _ _ _ (.bool false) _
        refine Gives.val ?_
        go_simp
      rcases i with _ | i
      · obtain rfl := Option.some.inj ho
        have e6 : ρ (.tmp 50) = .bool false := (hdep ⟨6, .data⟩ (by simp) rfl).1 50 rfl
        have ocn : ∀ v, ρ (.const v) = v := fun v => hout (.const v) rfl
        have ofn : ∀ f, ρ (.func f) = .func (.func f) #[] #[] := fun f => hout (.func f) rfl
        clear hdep hout
        refine .inl ⟨?_, ?_⟩
        · rfl
        show Gives _ _ _ (.bool false) _
        refine Gives.val ?_
        go_simp
      rcases i with _ | i
      · obtain rfl := Option.some.inj ho
        have o3 : ρ (.tmp 3) = .pointer (some ⟨x0.heap.size, 0, none⟩) := hout (.tmp 3) rfl
        have yg : y 7 = some false := (hdep ⟨7, .guard⟩ (by simp) rfl).2 51 rfl
        have ocn : ∀ v, ρ (.const v) = v := fun v => hout (.const v) rfl
        have ofn : ∀ f, ρ (.func f) = .func (.func f) #[] #[] := fun f => hout (.func f) rfl
        clear hdep hout
        refine .inr ⟨?_, rfl⟩
        show (y 7 == some true) = false
        rw [yg]; rfl
      rcases i with _ | i
      · obtain rfl := Option.some.inj ho
        have e8 : ρ (.tmp 52) = undef := (hdep ⟨8, .data⟩ (by simp) rfl).1 52 rfl
        have yg : y 7 = some false := (hdep ⟨7, .guard⟩ (by simp) rfl).2 51 rfl
        have ocn : ∀ v, ρ (.const v) = v := fun v => hout (.const v) rfl
        have ofn : ∀ f, ρ (.func f) = .func (.func f) #[] #[] := fun f => hout (.func f) rfl
        clear hdep hout
        refine .inr ⟨?_, rfl⟩
        show (y 7 == some true) = false
        rw [yg]; rfl
      rcases i with _ | i
      · obtain rfl := Option.some.inj ho
        have o3 : ρ (.tmp 3) = .pointer (some ⟨x0.heap.size, 0, none⟩) := hout (.tmp 3) rfl
        have yg : y 7 = some false := (hdep ⟨7, .guard⟩ (by simp) rfl).2 51 rfl
        have ocn : ∀ v, ρ (.const v) = v := fun v => hout (.const v) rfl
        have ofn : ∀ f, ρ (.func f) = .func (.func f) #[] #[] := fun f => hout (.func f) rfl
        clear hdep hout
        refine .inr ⟨?_, rfl⟩
        show (y 7 == some true) = false
        rw [yg]; rfl
      rcases i with _ | i
      · obtain rfl := Option.some.inj ho
        have e9 : ρ (.tmp 53) = undef := (hdep ⟨9, .data⟩ (by simp) rfl).1 53 rfl
        have e10 : ρ (.tmp 54) = undef := (hdep ⟨10, .data⟩ (by simp) rfl).1 54 rfl
        have yg : y 7 = some false := (hdep ⟨7, .guard⟩ (by simp) rfl).2 51 rfl
        have ocn : ∀ v, ρ (.const v) = v := fun v => hout (.const v) rfl
        have ofn : ∀ f, ρ (.func f) = .func (.func f) #[] #[] := fun f => hout (.func f) rfl
        clear hdep hout
        refine .inr ⟨?_, rfl⟩
        show (y 7 == some true) = false
        rw [yg]; rfl
      rcases i with _ | i
      · obtain rfl := Option.some.inj ho
        have e7 : ρ (.tmp 51) = .bool false := (hdep ⟨7, .data⟩ (by simp) rfl).1 51 rfl
        have e11 : ρ (.tmp 55) = undef := (hdep ⟨11, .data⟩ (by simp) rfl).1 55 rfl
        have ocn : ∀ v, ρ (.const v) = v := fun v => hout (.const v) rfl
        have ofn : ∀ f, ρ (.func f) = .func (.func f) #[] #[] := fun f => hout (.func f) rfl
        clear hdep hout
        refine .inl ⟨?_, ?_⟩
        · rfl
        show Gives _ _ _ (.bool false) _
        refine Gives.val ?_
        go_simp
      rcases i with _ | i
      · obtain rfl := Option.some.inj ho
        have e12 : ρ (.tmp 56) = .bool false := (hdep ⟨12, .data⟩ (by simp) rfl).1 56 rfl
        have ocn : ∀ v, ρ (.const v) = v := fun v => hout (.const v) rfl
        have ofn : ∀ f, ρ (.func f) = .func (.func f) #[] #[] := fun f => hout (.func f) rfl
        clear hdep hout
        refine .inl ⟨?_, ?_⟩
        · rfl
        show Gives _ _ _ (.bool false) _
        refine Gives.val ?_
        go_simp
      cases ho
    case fin =>
      intro x hBx
      have hBf := HAl.out.trans (hBx.mono HAl.out.size)
      go_wp2_with fail
      go_ret
      exact ⟨retBool (by have hfl := HFN.out.1; first | (simp [endF, noSite, HFN.out.1, hs]; done) | (simp [endF, noSite, HFN.out.1, hs]; intros; omega) | (simp_all [endF, noSite]; done) | (simp_all [endF, noSite] <;> omega)), hBf⟩
  · by_cases e1 : n2 = 1
    · subst e1
      go_enter Try.func77, Try.ntmps77
      go_wp2_with fail
      refine (isWord_e n3 _).mono ?_
      rintro e z ⟨rfl, rfl⟩
      cases hw : inI n3 (-16) 15
      all_goals
        go_wp2_with fail
        go_ret
        exact ⟨retBool (by have hfl := HFN.out.1; first | (simp [endF, noSite, HFN.out.1, hs, wdF, hw]; done) | (simp [endF, noSite, HFN.out.1, hs, wdF, hw]; intros; omega) | (simp_all [endF, noSite]; done) | (simp_all [endF, noSite] <;> omega)), by first | exact (Below.refl _ _).alloc (Nat.le_refl _) _ | go_grown⟩
    · go_enter Try.func77, Try.ntmps77
      go_wp2_with fail
      all_goals
        go_ret
        exact ⟨retBool (by have hfl := HFN.out.1; first | (simp [endF, noSite, HFN.out.1, hs, e1, e2, *]; done) | (simp [endF, noSite, HFN.out.1, hs, e1, e2, *]; intros; omega) | (simp_all [endF, noSite]; done) | (simp_all [endF, noSite] <;> omega)), by first | exact (Below.refl _ _).alloc (Nat.le_refl _) _ | go_grown⟩

set_option maxRecDepth 100000 in
set_option maxHeartbeats 8000000 in
theorem endOk_S0G1 (x0 : World) (B : Nat) (v : Value) (P : List (List I4)) (h : ProgAt x0 B v P) (hok : progOkF P = true) (s : Value) (F : List Fr) (hF : FrsAt x0 s F) (hl5 : F.length ≤ 5) (n1 n2 n3 n4 n5 n6 : Int) (hs : ¬ n4 = 0) (hg : 0 < F.length) (ho : ¬ n3 = 0) :
    Calls Try.prog 77 #[v, aggRun s (n1, n2, n3, n4, n5, n6)] x0 fun e y => e = .returned (.bool (endF P F n2 n3 (n4, n5, n6))) ∧ Below x0.heap.size x0 y := by
  obtain ⟨p, cap, rfl, _⟩ := h.shape
  obtain ⟨ps, cs, rfl, _⟩ := hF.shape
  unfold aggRun
  dsimp only
  have H : Hid (ProgAt x0 B (.slice p P.length cap) P) := h
  have HOK : Hid (progOkF P = true) := hok
  have HS : Hid (FrsAt x0 (.slice ps F.length cs) F) := hF
  have hl := progOkF_len hok
  have hn4 : (P.length : Int) ≤ 4 := by omega
  have hf5 : (F.length : Int) ≤ 5 := by omega
  clear h hok hF hl
  have hsb : (n4 == 0) = false := by simpa using hs
  have hob : (n3 == 0) = false := by simpa using ho
  generalize hfn : F.length = fn at *
  generalize hpn : P.length = pn at *
  have HFN : Hid (F.length = fn ∧ P.length = pn) := ⟨hfn, hpn⟩
  clear hfn hpn
  have hgi : (0 : Int) < (fn : Int) := by omega
  by_cases e2 : n2 = 2
  · subst e2
    have HAl : Hid (Below x0.heap.size x0 (x0.alloc (.cells #[.slice ps fn cs, .int .i64 n1, .int .i64 2, .int .i64 n3, .int .i64 n4, .int .i64 n5, .int .i64 n6] 56))) := (Below.refl _ _).alloc (Nat.le_refl _) _
    have K00 : Hid (BxN (x0.alloc (.cells #[.slice ps fn cs, .int .i64 n1, .int .i64 2, .int .i64 n3, .int .i64 n4, .int .i64 n5, .int .i64 n6] 56)) x0.heap.size [.slice ps fn cs, .int .i64 n1, .int .i64 2, .int .i64 n3, .int .i64 n4, .int .i64 n5, .int .i64 n6]) := BxN.new x0 [_, _, _, _, _, _, _] _
    go_enter Try.func77, Try.ntmps77
    go_wp2_with fail
    generalize x0.alloc (.cells #[.slice ps fn cs, .int .i64 n1, .int .i64 2, .int .i64 n3, .int .i64 n4, .int .i64 n5, .int .i64 n6] 56) = X at HAl K00 ⊢
    refine wp_region_vals (by kernel_rfl) (by kernel_rfl) (by kernel_rfl) (by kernel_rfl) (fun j => [.bool false, .bool false, undef, undef, undef, undef, .bool false, .bool false, undef, undef, undef, undef, .bool false, .bool false].getD j undef) X (Below.drew (Below.refl _ _)) ?step ⟨#[.slice p pn cap, .agg #[.slice ps fn cs, .int .i64 n1, .int .i64 2, .int .i64 n3, .int .i64 n4, .int .i64 n5, .int .i64 n6], undef, .pointer (some ⟨x0.heap.size, 0, none⟩), .bool false, .bool false, .bool false, .pointer (some ⟨x0.heap.size, 0, none⟩), .slice ps fn cs, .int .i64 ↑fn, .bool true, .bool true, .pointer (some ⟨x0.heap.size, 3, none⟩), .int .i64 n3, .bool false, .bool false, .pointer (some ⟨x0.heap.size, 4, none⟩), .agg #[.int .i64 n4, .int .i64 n5, .int .i64 n6], .agg #[.int .i64 0, .int .i64 0, .int .i64 0], .bool false, .pointer (some ⟨x0.heap.size, 2, none⟩), .int .i64 2, .bool false, .bool false, undef, undef, undef, undef, .bool false, .bool false, undef, undef, undef, undef, undef, undef, undef, undef, undef, undef, undef, undef, .bool true, .bool true, .bool false, .bool false, undef, undef, undef, undef, .bool false, .bool false, undef, undef, undef, undef, .bool false, undef, undef, undef, undef, undef, undef, undef, undef, undef, undef, undef, undef], []⟩ (by kernel_rfl) ?fin
    case step =>
      intro i o ho ρ y x hBx hdep hout
      rcases i with _ | i
      · obtain rfl := Option.some.inj ho
        have o5 : ρ (.tmp 5) = .bool false := hout (.tmp 5) rfl
        have ocn : ∀ v, ρ (.const v) = v := fun v => hout (.const v) rfl
        have ofn : ∀ f, ρ (.func f) = .func (.func f) #[] #[] := fun f => hout (.func f) rfl
        clear hdep hout
        refine .inl ⟨?_, ?_⟩
        · rfl
        show Gives _ _ _ (.bool false) _
        refine Gives.val ?_
        go_simp
      rcases i with _ | i
      · obtain rfl := Option.some.inj ho
        have e0 : ρ (.tmp 44) = .bool false := (hdep ⟨0, .data⟩ (by simp) rfl).1 44 rfl
        have ocn : ∀ v, ρ (.const v) = v := fun v => hout (.const v) rfl
        have ofn : ∀ f, ρ (.func f) = .func (.func f) #[] #[] := fun f => hout (.func f) rfl
        clear hdep hout
        refine .inl ⟨?_, ?_⟩
        · rfl
        show Gives _ _ _ (.bool false) _
        refine Gives.val ?_
        go_simp
      rcases i with _ | i
      · obtain rfl := Option.some.inj ho
        have o0 : ρ (.tmp 0) = .slice p pn cap := hout (.tmp 0) rfl
        have yg : y 1 = some false := (hdep ⟨1, .guard⟩ (by simp) rfl).2 45 rfl
        have ocn : ∀ v, ρ (.const v) = v := fun v => hout (.const v) rfl
        have ofn : ∀ f, ρ (.func f) = .func (.func f) #[] #[] := fun f => hout (.func f) rfl
        clear hdep hout
        refine .inr ⟨?_, rfl⟩
        show (y 1 == some true) = false
        rw [yg]; rfl
      rcases i with _ | i
      · obtain rfl := Option.some.inj ho
        have o3 : ρ (.tmp 3) = .pointer (some ⟨x0.heap.size, 0, none⟩) := hout (.tmp 3) rfl
        have yg : y 1 = some false := (hdep ⟨1, .guard⟩ (by simp) rfl).2 45 rfl
        have ocn : ∀ v, ρ (.const v) = v := fun v => hout (.const v) rfl
        have ofn : ∀ f, ρ (.func f) = .func (.func f) #[] #[] := fun f => hout (.func f) rfl
        clear hdep hout
        refine .inr ⟨?_, rfl⟩
        show (y 1 == some true) = false
        rw [yg]; rfl
      rcases i with _ | i
      · obtain rfl := Option.some.inj ho
        have e3 : ρ (.tmp 47) = undef := (hdep ⟨3, .data⟩ (by simp) rfl).1 47 rfl
        have yg : y 1 = some false := (hdep ⟨1, .guard⟩ (by simp) rfl).2 45 rfl
        have ocn : ∀ v, ρ (.const v) = v := fun v => hout (.const v) rfl
        have ofn : ∀ f, ρ (.func f) = .func (.func f) #[] #[] := fun f => hout (.func f) rfl
        clear hdep hout
        refine .inr ⟨?_, rfl⟩
        show (y 1 == some true) = false
        rw [yg]; rfl
      rcases i with _ | i
      · obtain rfl := Option.some.inj ho
        have e2 : ρ (.tmp 46) = undef := (hdep ⟨2, .data⟩ (by simp) rfl).1 46 rfl
        have e4 : ρ (.tmp 48) = undef := (hdep ⟨4, .data⟩ (by simp) rfl).1 48 rfl
        have yg : y 1 = some false := (hdep ⟨1, .guard⟩ (by simp) rfl).2 45 rfl
        have ocn : ∀ v, ρ (.const v) = v := fun v => hout (.const v) rfl
        have ofn : ∀ f, ρ (.func f) = .func (.func f) #[] #[] := fun f => hout (.func f) rfl
        clear hdep hout
        refine .inr ⟨?_, rfl⟩
        show (y 1 == some true) = false
        rw [yg]; rfl
      rcases i with _ | i
      · obtain rfl := Option.some.inj ho
        have e1 : ρ (.tmp 45) = .bool false := (hdep ⟨1, .data⟩ (by simp) rfl).1 45 rfl
        have e5 : ρ (.tmp 49) = undef := (hdep ⟨5, .data⟩ (by simp) rfl).1 49 rfl
        have ocn : ∀ v, ρ (.const v) = v := fun v => hout (.const v) rfl
        have ofn : ∀ f, ρ (.func f) = .func (.func f) #[] #[] := fun f => hout (.func f) rfl
        clear hdep hout
        refine .inl ⟨?_, ?_⟩
        · rfl
        show Gives _ _ _ (.bool false) _
        refine Gives.val ?_
        go_simp
      rcases i with _ | i
      · obtain rfl := Option.some.inj ho
        have e6 : ρ (.tmp 50) = .bool false := (hdep ⟨6, .data⟩ (by simp) rfl).1 50 rfl
        have ocn : ∀ v, ρ (.const v) = v := fun v => hout (.const v) rfl
        have ofn : ∀ f, ρ (.func f) = .func (.func f) #[] #[] := fun f => hout (.func f) rfl
        clear hdep hout
        refine .inl ⟨?_, ?_⟩
        · rfl
        show Gives _ _ _ (.bool false) _
        refine Gives.val ?_
        go_simp
      rcases i with _ | i
      · obtain rfl := Option.some.inj ho
        have o3 : ρ (.tmp 3) = .pointer (some ⟨x0.heap.size, 0, none⟩) := hout (.tmp 3) rfl
        have yg : y 7 = some false := (hdep ⟨7, .guard⟩ (by simp) rfl).2 51 rfl
        have ocn : ∀ v, ρ (.const v) = v := fun v => hout (.const v) rfl
        have ofn : ∀ f, ρ (.func f) = .func (.func f) #[] #[] := fun f => hout (.func f) rfl
        clear hdep hout
        refine .inr ⟨?_, rfl⟩
        show (y 7 == some true) = false
        rw [yg]; rfl
      rcases i with _ | i
      · obtain rfl := Option.some.inj ho
        have e8 : ρ (.tmp 52) = undef := (hdep ⟨8, .data⟩ (by simp) rfl).1 52 rfl
        have yg : y 7 = some false := (hdep ⟨7, .guard⟩ (by simp) rfl).2 51 rfl
        have ocn : ∀ v, ρ (.const v) = v := fun v => hout (.const v) rfl
        have ofn : ∀ f, ρ (.func f) = .func (.func f) #[] #[] := fun f => hout (.func f) rfl
        clear hdep hout
        refine .inr ⟨?_, rfl⟩
        show (y 7 == some true) = false
        rw [yg]; rfl
      rcases i with _ | i
      · obtain rfl := Option.some.inj ho
        have o3 : ρ (.tmp 3) = .pointer (some ⟨x0.heap.size, 0, none⟩) := hout (.tmp 3) rfl
        have yg : y 7 = some false := (hdep ⟨7, .guard⟩ (by simp) rfl).2 51 rfl
        have ocn : ∀ v, ρ (.const v) = v := fun v => hout (.const v) rfl
        have ofn : ∀ f, ρ (.func f) = .func (.func f) #[] #[] := fun f => hout (.func f) rfl
        clear hdep hout
        refine .inr ⟨?_, rfl⟩
        show (y 7 == some true) = false
        rw [yg]; rfl
      rcases i with _ | i
      · obtain rfl := Option.some.inj ho
        have e9 : ρ (.tmp 53) = undef := (hdep ⟨9, .data⟩ (by simp) rfl).1 53 rfl
        have e10 : ρ (.tmp 54) = undef := (hdep ⟨10, .data⟩ (by simp) rfl).1 54 rfl
        have yg : y 7 = some false := (hdep ⟨7, .guard⟩ (by simp) rfl).2 51 rfl
        have ocn : ∀ v, ρ (.const v) = v := fun v => hout (.const v) rfl
        have ofn : ∀ f, ρ (.func f) = .func (.func f) #[] #[] := fun f => hout (.func f) rfl
        clear hdep hout
        refine .inr ⟨?_, rfl⟩
        show (y 7 == some true) = false
        rw [yg]; rfl
      rcases i with _ | i
      · obtain rfl := Option.some.inj ho
        have e7 : ρ (.tmp 51) = .bool false := (hdep ⟨7, .data⟩ (by simp) rfl).1 51 rfl
        have e11 : ρ (.tmp 55) = undef := (hdep ⟨11, .data⟩ (by simp) rfl).1 55 rfl
        have ocn : ∀ v, ρ (.const v) = v := fun v => hout (.const v) rfl
        have ofn : ∀ f, ρ (.func f) = .func (.func f) #[] #[] := fun f => hout (.func f) rfl
        clear hdep hout
        refine .inl ⟨?_, ?_⟩
        · rfl
        show Gives _ _ _ (.bool false) _
        refine Gives.val ?_
        go_simp
      rcases i with _ | i
      · obtain rfl := Option.some.inj ho
        have e12 : ρ (.tmp 56) = .bool false := (hdep ⟨12, .data⟩ (by simp) rfl).1 56 rfl
        have ocn : ∀ v, ρ (.const v) = v := fun v => hout (.const v) rfl
        have ofn : ∀ f, ρ (.func f) = .func (.func f) #[] #[] := fun f => hout (.func f) rfl
        clear hdep hout
        refine .inl ⟨?_, ?_⟩
        · rfl
        show Gives _ _ _ (.bool false) _
        refine Gives.val ?_
        go_simp
      cases ho
    case fin =>
      intro x hBx
      have hBf := HAl.out.trans (hBx.mono HAl.out.size)
      go_wp2_with fail
      go_ret
      exact ⟨retBool (by have hfl := HFN.out.1; first | (simp [endF, noSite, HFN.out.1, hs, ho]; done) | (simp [endF, noSite, HFN.out.1, hs, ho]; intros; omega) | (simp_all [endF, noSite]; done) | (simp_all [endF, noSite] <;> omega)), hBf⟩
  · by_cases e1 : n2 = 1
    · subst e1
      go_enter Try.func77, Try.ntmps77
      go_wp2_with fail
      go_ret
      exact ⟨retBool (by have hfl := HFN.out.1; first | (simp [endF, noSite, HFN.out.1, hs, ho]; done) | (simp [endF, noSite, HFN.out.1, hs, ho]; intros; omega) | (simp_all [endF, noSite]; done) | (simp_all [endF, noSite] <;> omega)), by first | exact (Below.refl _ _).alloc (Nat.le_refl _) _ | go_grown⟩
    · go_enter Try.func77, Try.ntmps77
      go_wp2_with fail
      all_goals
        go_ret
        exact ⟨retBool (by have hfl := HFN.out.1; first | (simp [endF, noSite, HFN.out.1, hs, ho, e1, e2, *]; done) | (simp [endF, noSite, HFN.out.1, hs, ho, e1, e2, *]; intros; omega) | (simp_all [endF, noSite]; done) | (simp_all [endF, noSite] <;> omega)), by first | exact (Below.refl _ _).alloc (Nat.le_refl _) _ | go_grown⟩

set_option maxRecDepth 100000 in
set_option maxHeartbeats 8000000 in
theorem endOk_S0G2 (x0 : World) (B : Nat) (v : Value) (P : List (List I4)) (h : ProgAt x0 B v P) (hok : progOkF P = true) (s : Value) (F : List Fr) (hF : FrsAt x0 s F) (hl5 : F.length ≤ 5) (n1 n2 n3 n4 n5 n6 : Int) (hs : ¬ n4 = 0) (hg : 0 < F.length) (ho : n3 = 0) :
    Calls Try.prog 77 #[v, aggRun s (n1, n2, n3, n4, n5, n6)] x0 fun e y => e = .returned (.bool (endF P F n2 n3 (n4, n5, n6))) ∧ Below x0.heap.size x0 y := by
  obtain ⟨p, cap, rfl, _⟩ := h.shape
  obtain ⟨ps, cs, rfl, _⟩ := hF.shape
  unfold aggRun
  dsimp only
  have H : Hid (ProgAt x0 B (.slice p P.length cap) P) := h
  have HOK : Hid (progOkF P = true) := hok
  have HS : Hid (FrsAt x0 (.slice ps F.length cs) F) := hF
  have hl := progOkF_len hok
  have hn4 : (P.length : Int) ≤ 4 := by omega
  have hf5 : (F.length : Int) ≤ 5 := by omega
  clear h hok hF hl
  have hsb : (n4 == 0) = false := by simpa using hs
  subst ho
  generalize hfn : F.length = fn at *
  generalize hpn : P.length = pn at *
  have HFN : Hid (F.length = fn ∧ P.length = pn) := ⟨hfn, hpn⟩
  clear hfn hpn
  have hgi : (0 : Int) < (fn : Int) := by omega
  by_cases e2 : n2 = 2
  · subst e2
    have HAl : Hid (Below x0.heap.size x0 (x0.alloc (.cells #[.slice ps fn cs, .int .i64 n1, .int .i64 2, .int .i64 0, .int .i64 n4, .int .i64 n5, .int .i64 n6] 56))) := (Below.refl _ _).alloc (Nat.le_refl _) _
    have K00 : Hid (BxN (x0.alloc (.cells #[.slice ps fn cs, .int .i64 n1, .int .i64 2, .int .i64 0, .int .i64 n4, .int .i64 n5, .int .i64 n6] 56)) x0.heap.size [.slice ps fn cs, .int .i64 n1, .int .i64 2, .int .i64 0, .int .i64 n4, .int .i64 n5, .int .i64 n6]) := BxN.new x0 [_, _, _, _, _, _, _] _
    go_enter Try.func77, Try.ntmps77
    go_wp2_with fail
    generalize x0.alloc (.cells #[.slice ps fn cs, .int .i64 n1, .int .i64 2, .int .i64 0, .int .i64 n4, .int .i64 n5, .int .i64 n6] 56) = X at HAl K00 ⊢
    cases hso : siteOkF P (n4, n5, n6)
    · skip
      have HSO : Hid (∀ z : World, Below x0.heap.size x0 z → Calls Try.prog 111 #[.slice p pn cap, .agg #[.int .i64 n4, .int .i64 n5, .int .i64 n6]] z fun e y => e = .returned (.bool false) ∧ Below z.heap.size z y) := fun z hz => by
        have := siteOk_any z B (.slice p pn cap) P (H.out.later hz) HOK.out (n4, n5, n6)
        rw [hso] at this; exact this
      refine wp_region_vals (by kernel_rfl) (by kernel_rfl) (by kernel_rfl) (by kernel_rfl) (fun j => [.bool true, .bool true, .slice p pn cap, .pointer (some ⟨x0.heap.size, 4, none⟩), .agg #[.int .i64 n4, .int .i64 n5, .int .i64 n6], .bool false, .bool false, .bool false, undef, undef, undef, undef, .bool false, .bool false].getD j undef) X (Below.drew (Below.refl _ _)) ?step ⟨#[.slice p pn cap, .agg #[.slice ps fn cs, .int .i64 n1, .int .i64 2, .int .i64 0, .int .i64 n4, .int .i64 n5, .int .i64 n6], undef, .pointer (some ⟨x0.heap.size, 0, none⟩), .bool false, .bool true, .bool false, .pointer (some ⟨x0.heap.size, 0, none⟩), .slice ps fn cs, .int .i64 ↑fn, .bool true, .bool true, .pointer (some ⟨x0.heap.size, 3, none⟩), .int .i64 0, .bool true, .bool true, .pointer (some ⟨x0.heap.size, 4, none⟩), .agg #[.int .i64 n4, .int .i64 n5, .int .i64 n6], .agg #[.int .i64 0, .int .i64 0, .int .i64 0], .bool false, .pointer (some ⟨x0.heap.size, 2, none⟩), .int .i64 2, .bool false, .bool false, undef, undef, undef, undef, .bool false, .bool false, undef, undef, undef, undef, undef, undef, undef, undef, undef, undef, undef, undef, .bool true, .bool true, .bool true, .bool true, .slice p pn cap, .pointer (some ⟨x0.heap.size, 4, none⟩), .agg #[.int .i64 n4, .int .i64 n5, .int .i64 n6], .bool false, .bool false, .bool false, undef, undef, undef, undef, .bool false, undef, undef, undef, undef, undef, undef, undef, undef, undef, undef, undef, undef], []⟩ (by kernel_rfl) ?fin
      case step =>
        intro i o ho ρ y x hBx hdep hout
        rcases i with _ | i
        · obtain rfl := Option.some.inj ho
          have o5 : ρ (.tmp 5) = .bool true := hout (.tmp 5) rfl
          have ocn : ∀ v, ρ (.const v) = v := fun v => hout (.const v) rfl
          have ofn : ∀ f, ρ (.func f) = .func (.func f) #[] #[] := fun f => hout (.func f) rfl
          clear hdep hout
          refine .inl ⟨?_, ?_⟩
          · rfl
          show Gives _ _ _ (.bool true) _
          refine Gives.val ?_
          go_simp
        rcases i with _ | i
        · obtain rfl := Option.some.inj ho
          have e0 : ρ (.tmp 44) = .bool true := (hdep ⟨0, .data⟩ (by simp) rfl).1 44 rfl
          have ocn : ∀ v, ρ (.const v) = v := fun v => hout (.const v) rfl
          have ofn : ∀ f, ρ (.func f) = .func (.func f) #[] #[] := fun f => hout (.func f) rfl
          clear hdep hout
          refine .inl ⟨?_, ?_⟩
          · rfl
          show Gives _ _ _ (.bool true) _
          refine Gives.val ?_
          go_simp
        rcases i with _ | i
        · obtain rfl := Option.some.inj ho
          have o0 : ρ (.tmp 0) = .slice p pn cap := hout (.tmp 0) rfl
          have yg : y 1 = some true := (hdep ⟨1, .guard⟩ (by simp) rfl).2 45 rfl
          have ocn : ∀ v, ρ (.const v) = v := fun v => hout (.const v) rfl
          have ofn : ∀ f, ρ (.func f) = .func (.func f) #[] #[] := fun f => hout (.func f) rfl
          clear hdep hout
          refine .inl ⟨?_, ?_⟩
          · show (y 1 == some true) = true
            rw [yg]; rfl
          show Gives _ _ _ (.slice p pn cap) _
          refine Gives.val ?_
          go_simp
        rcases i with _ | i
        · obtain rfl := Option.some.inj ho
          have o3 : ρ (.tmp 3) = .pointer (some ⟨x0.heap.size, 0, none⟩) := hout (.tmp 3) rfl
          have yg : y 1 = some true := (hdep ⟨1, .guard⟩ (by simp) rfl).2 45 rfl
          have ocn : ∀ v, ρ (.const v) = v := fun v => hout (.const v) rfl
          have ofn : ∀ f, ρ (.func f) = .func (.func f) #[] #[] := fun f => hout (.func f) rfl
          clear hdep hout
          refine .inl ⟨?_, ?_⟩
          · show (y 1 == some true) = true
            rw [yg]; rfl
          show Gives _ _ _ (.pointer (some ⟨x0.heap.size, 4, none⟩)) _
          refine Gives.val ?_
          go_simp
        rcases i with _ | i
        · obtain rfl := Option.some.inj ho
          have e3 : ρ (.tmp 47) = .pointer (some ⟨x0.heap.size, 4, none⟩) := (hdep ⟨3, .data⟩ (by simp) rfl).1 47 rfl
          have yg : y 1 = some true := (hdep ⟨1, .guard⟩ (by simp) rfl).2 45 rfl
          have ocn : ∀ v, ρ (.const v) = v := fun v => hout (.const v) rfl
          have ofn : ∀ f, ρ (.func f) = .func (.func f) #[] #[] := fun f => hout (.func f) rfl
          clear hdep hout
          refine .inl ⟨?_, ?_⟩
          · show (y 1 == some true) = true
            rw [yg]; rfl
          have kb := K00.out.later hBx
          have c0 := kb.c 0 _ rfl
          have c3 := kb.c 3 _ rfl
          have c4 := kb.c 4 _ rfl
          have c5 := kb.c 5 _ rfl
          have c6 := kb.c 6 _ rfl
          have cl0 := kb.lt
          show Gives _ _ _ (.agg #[.int .i64 n4, .int .i64 n5, .int .i64 n6]) _
          refine Gives.val ?_
          go_simp
        rcases i with _ | i
        · obtain rfl := Option.some.inj ho
          have e2 : ρ (.tmp 46) = .slice p pn cap := (hdep ⟨2, .data⟩ (by simp) rfl).1 46 rfl
          have e4 : ρ (.tmp 48) = .agg #[.int .i64 n4, .int .i64 n5, .int .i64 n6] := (hdep ⟨4, .data⟩ (by simp) rfl).1 48 rfl
          have yg : y 1 = some true := (hdep ⟨1, .guard⟩ (by simp) rfl).2 45 rfl
          have ocn : ∀ v, ρ (.const v) = v := fun v => hout (.const v) rfl
          have ofn : ∀ f, ρ (.func f) = .func (.func f) #[] #[] := fun f => hout (.func f) rfl
          clear hdep hout
          refine .inl ⟨?_, ?_⟩
          · show (y 1 == some true) = true
            rw [yg]; rfl
          show Gives _ _ _ (.bool false) _
          refine Gives.call (HSO.out x (HAl.out.trans (hBx.mono HAl.out.size))) ?_
          go_simp
        rcases i with _ | i
        · obtain rfl := Option.some.inj ho
          have e1 : ρ (.tmp 45) = .bool true := (hdep ⟨1, .data⟩ (by simp) rfl).1 45 rfl
          have e5 : ρ (.tmp 49) = .bool false := (hdep ⟨5, .data⟩ (by simp) rfl).1 49 rfl
          have ocn : ∀ v, ρ (.const v) = v := fun v => hout (.const v) rfl
          have ofn : ∀ f, ρ (.func f) = .func (.func f) #[] #[] := fun f => hout (.func f) rfl
          clear hdep hout
          refine .inl ⟨?_, ?_⟩
          · rfl
          show Gives _ _ _ (.bool false) _
          refine Gives.val ?_
          go_simp
        rcases i with _ | i
        · obtain rfl := Option.some.inj ho
          have e6 : ρ (.tmp 50) = .bool false := (hdep ⟨6, .data⟩ (by simp) rfl).1 50 rfl
          have ocn : ∀ v, ρ (.const v) = v := fun v => hout (.const v) rfl
          have ofn : ∀ f, ρ (.func f) = .func (.func f) #[] #[] := fun f => hout (.func f) rfl
          clear hdep hout
          refine .inl ⟨?_, ?_⟩
          · rfl
          show Gives _ _ _ (.bool false) _
          refine Gives.val ?_
          go_simp
        rcases i with _ | i
        · obtain rfl := Option.some.inj ho
          have o3 : ρ (.tmp 3) = .pointer (some ⟨x0.heap.size, 0, none⟩) := hout (.tmp 3) rfl
          have yg : y 7 = some false := (hdep ⟨7, .guard⟩ (by simp) rfl).2 51 rfl
          have ocn : ∀ v, ρ (.const v) = v := fun v => hout (.const v) rfl
          have ofn : ∀ f, ρ (.func f) = .func (.func f) #[] #[] := fun f => hout (.func f) rfl
          clear hdep hout
          refine .inr ⟨?_, rfl⟩
          show (y 7 == some true) = false
          rw [yg]; rfl
        rcases i with _ | i
        · obtain rfl := Option.some.inj ho
          have e8 : ρ (.tmp 52) = undef := (hdep ⟨8, .data⟩ (by simp) rfl).1 52 rfl
          have yg : y 7 = some false := (hdep ⟨7, .guard⟩ (by simp) rfl).2 51 rfl
          have ocn : ∀ v, ρ (.const v) = v := fun v => hout (.const v) rfl
          have ofn : ∀ f, ρ (.func f) = .func (.func f) #[] #[] := fun f => hout (.func f) rfl
          clear hdep hout
          refine .inr ⟨?_, rfl⟩
          show (y 7 == some true) = false
          rw [yg]; rfl
        rcases i with _ | i
        · obtain rfl := Option.some.inj ho
          have o3 : ρ (.tmp 3) = .pointer (some ⟨x0.heap.size, 0, none⟩) := hout (.tmp 3) rfl
          have yg : y 7 = some false := (hdep ⟨7, .guard⟩ (by simp) rfl).2 51 rfl
          have ocn : ∀ v, ρ (.const v) = v := fun v => hout (.const v) rfl
          have ofn : ∀ f, ρ (.func f) = .func (.func f) #[] #[] := fun f => hout (.func f) rfl
          clear hdep hout
          refine .inr ⟨?_, rfl⟩
          show (y 7 == some true) = false
          rw [yg]; rfl
        rcases i with _ | i
        · obtain rfl := Option.some.inj ho
          have e9 : ρ (.tmp 53) = undef := (hdep ⟨9, .data⟩ (by simp) rfl).1 53 rfl
          have e10 : ρ (.tmp 54) = undef := (hdep ⟨10, .data⟩ (by simp) rfl).1 54 rfl
          have yg : y 7 = some false := (hdep ⟨7, .guard⟩ (by simp) rfl).2 51 rfl
          have ocn : ∀ v, ρ (.const v) = v := fun v => hout (.const v) rfl
          have ofn : ∀ f, ρ (.func f) = .func (.func f) #[] #[] := fun f => hout (.func f) rfl
          clear hdep hout
          refine .inr ⟨?_, rfl⟩
          show (y 7 == some true) = false
          rw [yg]; rfl
        rcases i with _ | i
        · obtain rfl := Option.some.inj ho
          have e7 : ρ (.tmp 51) = .bool false := (hdep ⟨7, .data⟩ (by simp) rfl).1 51 rfl
          have e11 : ρ (.tmp 55) = undef := (hdep ⟨11, .data⟩ (by simp) rfl).1 55 rfl
          have ocn : ∀ v, ρ (.const v) = v := fun v => hout (.const v) rfl
          have ofn : ∀ f, ρ (.func f) = .func (.func f) #[] #[] := fun f => hout (.func f) rfl
          clear hdep hout
          refine .inl ⟨?_, ?_⟩
          · rfl
          show Gives _ _ _ (.bool false) _
          refine Gives.val ?_
          go_simp
        rcases i with _ | i
        · obtain rfl := Option.some.inj ho
          have e12 : ρ (.tmp 56) = .bool false := (hdep ⟨12, .data⟩ (by simp) rfl).1 56 rfl
          have ocn : ∀ v, ρ (.const v) = v := fun v => hout (.const v) rfl
          have ofn : ∀ f, ρ (.func f) = .func (.func f) #[] #[] := fun f => hout (.func f) rfl
          clear hdep hout
          refine .inl ⟨?_, ?_⟩
          · rfl
          show Gives _ _ _ (.bool false) _
          refine Gives.val ?_
          go_simp
        cases ho
      case fin =>
        intro x hBx
        have hBf := HAl.out.trans (hBx.mono HAl.out.size)
        go_wp2_with fail
        go_ret
        exact ⟨retBool (by have hfl := HFN.out.1; first | (simp [endF, noSite, HFN.out.1, hs, hg, hso]; done) | (simp [endF, noSite, HFN.out.1, hs, hg, hso]; intros; omega) | (simp_all [endF, noSite]; done) | (simp_all [endF, noSite] <;> omega)), hBf⟩
    · skip
      have HSO : Hid (∀ z : World, Below x0.heap.size x0 z → Calls Try.prog 111 #[.slice p pn cap, .agg #[.int .i64 n4, .int .i64 n5, .int .i64 n6]] z fun e y => e = .returned (.bool true) ∧ Below z.heap.size z y) := fun z hz => by
        have := siteOk_any z B (.slice p pn cap) P (H.out.later hz) HOK.out (n4, n5, n6)
        rw [hso] at this; exact this
      obtain ⟨g, o, hp, hgx, hfr⟩ := FrsAt.frame (p := ps) (cap := cs) (F := F) (j := F.length - 1) (by have := HS.out; rw [← HFN.out.1] at this; exact this) (by rw [HFN.out.1]; omega)
      subst hp
      have HT : Hid ((F.getD (F.length - 1) fr0) = topF F) := rfl
      rw [HT.out] at hfr
      rw [HFN.out.1] at hfr
      have t0 := hfr.c0
      have t2 := hfr.c2
      have HTP : Hid (∀ z : World, Below X.heap.size X z → Calls Try.prog 113 #[.pointer (some ⟨x0.heap.size, 0, none⟩)] z fun e y => e = .returned (.pointer (some ⟨g, o + (fn - 1) * 6, none⟩)) ∧ Below z.heap.size z y) := fun z hz => by
        have kb := K00.out.later hz
        exact top_any z x0.heap.size g o fn cs (kb.c 0 _ rfl) hg (by have := HFN.out.1; omega) kb.lt (Nat.lt_of_lt_of_le hgx (HAl.out.trans (hz.mono HAl.out.size)).size)
      have HIS : Hid (∀ z : World, Below X.heap.size X z → Calls Try.prog 112 #[.agg #[.int .i64 n4, .int .i64 n5, .int .i64 n6], .pointer (some ⟨g, o + (fn - 1) * 6, none⟩)] z fun e y => e = .returned (.bool (decide (n4 = (topF F).p) && decide (n5 = (topF F).t))) ∧ Below z.heap.size z y) := fun z hz => by
        have hbz := HAl.out.trans (hz.mono HAl.out.size)
        exact isOf_any z g (o + (fn - 1) * 6) (topF F).p (topF F).t (n4, n5, n6) ((hbz.cell (p := ⟨g, _, none⟩) hgx).trans t0) ((hbz.cell (p := ⟨g, _, none⟩) hgx).trans t2) (Nat.lt_of_lt_of_le hgx hbz.size)
      refine wp_region_vals (by kernel_rfl) (by kernel_rfl) (by kernel_rfl) (by kernel_rfl) (fun j => [.bool true, .bool true, .slice p pn cap, .pointer (some ⟨x0.heap.size, 4, none⟩), .agg #[.int .i64 n4, .int .i64 n5, .int .i64 n6], .bool true, .bool true, .bool true, .pointer (some ⟨x0.heap.size, 4, none⟩), .agg #[.int .i64 n4, .int .i64 n5, .int .i64 n6], .pointer (some ⟨g, o + (fn - 1) * 6, none⟩), .bool (decide (n4 = (topF F).p) && decide (n5 = (topF F).t)), .bool (decide (n4 = (topF F).p) && decide (n5 = (topF F).t)), .bool (decide (n4 = (topF F).p) && decide (n5 = (topF F).t))].getD j undef) X (Below.drew (Below.refl _ _)) ?step ⟨#[.slice p pn cap, .agg #[.slice (some ⟨g, o, none⟩) fn cs, .int .i64 n1, .int .i64 2, .int .i64 0, .int .i64 n4, .int .i64 n5, .int .i64 n6], undef, .pointer (some ⟨x0.heap.size, 0, none⟩), .bool (decide (n4 = (topF F).p) && decide (n5 = (topF F).t)), .bool true, .bool false, .pointer (some ⟨x0.heap.size, 0, none⟩), .slice (some ⟨g, o, none⟩) fn cs, .int .i64 ↑fn, .bool true, .bool true, .pointer (some ⟨x0.heap.size, 3, none⟩), .int .i64 0, .bool true, .bool true, .pointer (some ⟨x0.heap.size, 4, none⟩), .agg #[.int .i64 n4, .int .i64 n5, .int .i64 n6], .agg #[.int .i64 0, .int .i64 0, .int .i64 0], .bool false, .pointer (some ⟨x0.heap.size, 2, none⟩), .int .i64 2, .bool false, .bool false, undef, undef, undef, undef, .bool false, .bool false, undef, undef, undef, undef, undef, undef, undef, undef, undef, undef, undef, undef, .bool true, .bool true, .bool true, .bool true, .slice p pn cap, .pointer (some ⟨x0.heap.size, 4, none⟩), .agg #[.int .i64 n4, .int .i64 n5, .int .i64 n6], .bool true, .bool true, .bool true, .pointer (some ⟨x0.heap.size, 4, none⟩), .agg #[.int .i64 n4, .int .i64 n5, .int .i64 n6], .pointer (some ⟨g, o + (fn - 1) * 6, none⟩), .bool (decide (n4 = (topF F).p) && decide (n5 = (topF F).t)), .bool (decide (n4 = (topF F).p) && decide (n5 = (topF F).t)), undef, undef, undef, undef, undef, undef, undef, undef, undef, undef, undef, undef], []⟩ (by kernel_rfl) ?fin
      case step =>
        intro i o ho ρ y x hBx hdep hout
        rcases i with _ | i
        · obtain rfl := Option.some.inj ho
          have o5 : ρ (.tmp 5) = .bool true := hout (.tmp 5) rfl
          have ocn : ∀ v, ρ (.const v) = v := fun v => hout (.const v) rfl
          have ofn : ∀ f, ρ (.func f) = .func (.func f) #[] #[] := fun f => hout (.func f) rfl
          clear hdep hout
          refine .inl ⟨?_, ?_⟩
          · rfl
          show Gives _ _ _ (.bool true) _
          refine Gives.val ?_
          go_simp
        rcases i with _ | i
        · obtain rfl := Option.some.inj ho
          have e0 : ρ (.tmp 44) = .bool true := (hdep ⟨0, .data⟩ (by simp) rfl).1 44 rfl
          have ocn : ∀ v, ρ (.const v) = v := fun v => hout (.const v) rfl
          have ofn : ∀ f, ρ (.func f) = .func (.func f) #[] #[] := fun f => hout (.func f) rfl
          clear hdep hout
          refine .inl ⟨?_, ?_⟩
          · rfl
          show Gives _ _ _ (.bool true) _
          refine Gives.val ?_
          go_simp
        rcases i with _ | i
        · obtain rfl := Option.some.inj ho
          have o0 : ρ (.tmp 0) = .slice p pn cap := hout (.tmp 0) rfl
          have yg : y 1 = some true := (hdep ⟨1, .guard⟩ (by simp) rfl).2 45 rfl
          have ocn : ∀ v, ρ (.const v) = v := fun v => hout (.const v) rfl
          have ofn : ∀ f, ρ (.func f) = .func (.func f) #[] #[] := fun f => hout (.func f) rfl
          clear hdep hout
          refine .inl ⟨?_, ?_⟩
          · show (y 1 == some true) = true
            rw [yg]; rfl
          show Gives _ _ _ (.slice p pn cap) _
          refine Gives.val ?_
          go_simp
        rcases i with _ | i
        · obtain rfl := Option.some.inj ho
          have o3 : ρ (.tmp 3) = .pointer (some ⟨x0.heap.size, 0, none⟩) := hout (.tmp 3) rfl
          have yg : y 1 = some true := (hdep ⟨1, .guard⟩ (by simp) rfl).2 45 rfl
          have ocn : ∀ v, ρ (.const v) = v := fun v => hout (.const v) rfl
          have ofn : ∀ f, ρ (.func f) = .func (.func f) #[] #[] := fun f => hout (.func f) rfl
          clear hdep hout
          refine .inl ⟨?_, ?_⟩
          · show (y 1 == some true) = true
            rw [yg]; rfl
          show Gives _ _ _ (.pointer (some ⟨x0.heap.size, 4, none⟩)) _
          refine Gives.val ?_
          go_simp
        rcases i with _ | i
        · obtain rfl := Option.some.inj ho
          have e3 : ρ (.tmp 47) = .pointer (some ⟨x0.heap.size, 4, none⟩) := (hdep ⟨3, .data⟩ (by simp) rfl).1 47 rfl
          have yg : y 1 = some true := (hdep ⟨1, .guard⟩ (by simp) rfl).2 45 rfl
          have ocn : ∀ v, ρ (.const v) = v := fun v => hout (.const v) rfl
          have ofn : ∀ f, ρ (.func f) = .func (.func f) #[] #[] := fun f => hout (.func f) rfl
          clear hdep hout
          refine .inl ⟨?_, ?_⟩
          · show (y 1 == some true) = true
            rw [yg]; rfl
          have kb := K00.out.later hBx
          have c0 := kb.c 0 _ rfl
          have c3 := kb.c 3 _ rfl
          have c4 := kb.c 4 _ rfl
          have c5 := kb.c 5 _ rfl
          have c6 := kb.c 6 _ rfl
          have cl0 := kb.lt
          show Gives _ _ _ (.agg #[.int .i64 n4, .int .i64 n5, .int .i64 n6]) _
          refine Gives.val ?_
          go_simp
        rcases i with _ | i
        · obtain rfl := Option.some.inj ho
          have e2 : ρ (.tmp 46) = .slice p pn cap := (hdep ⟨2, .data⟩ (by simp) rfl).1 46 rfl
          have e4 : ρ (.tmp 48) = .agg #[.int .i64 n4, .int .i64 n5, .int .i64 n6] := (hdep ⟨4, .data⟩ (by simp) rfl).1 48 rfl
          have yg : y 1 = some true := (hdep ⟨1, .guard⟩ (by simp) rfl).2 45 rfl
          have ocn : ∀ v, ρ (.const v) = v := fun v => hout (.const v) rfl
          have ofn : ∀ f, ρ (.func f) = .func (.func f) #[] #[] := fun f => hout (.func f) rfl
          clear hdep hout
          refine .inl ⟨?_, ?_⟩
          · show (y 1 == some true) = true
            rw [yg]; rfl
          show Gives _ _ _ (.bool true) _
          refine Gives.call (HSO.out x (HAl.out.trans (hBx.mono HAl.out.size))) ?_
          go_simp
        rcases i with _ | i
        · obtain rfl := Option.some.inj ho
          have e1 : ρ (.tmp 45) = .bool true := (hdep ⟨1, .data⟩ (by simp) rfl).1 45 rfl
          have e5 : ρ (.tmp 49) = .bool true := (hdep ⟨5, .data⟩ (by simp) rfl).1 49 rfl
          have ocn : ∀ v, ρ (.const v) = v := fun v => hout (.const v) rfl
          have ofn : ∀ f, ρ (.func f) = .func (.func f) #[] #[] := fun f => hout (.func f) rfl
          clear hdep hout
          refine .inl ⟨?_, ?_⟩
          · rfl
          show Gives _ _ _ (.bool true) _
          refine Gives.val ?_
          go_simp
        rcases i with _ | i
        · obtain rfl := Option.some.inj ho
          have e6 : ρ (.tmp 50) = .bool true := (hdep ⟨6, .data⟩ (by simp) rfl).1 50 rfl
          have ocn : ∀ v, ρ (.const v) = v := fun v => hout (.const v) rfl
          have ofn : ∀ f, ρ (.func f) = .func (.func f) #[] #[] := fun f => hout (.func f) rfl
          clear hdep hout
          refine .inl ⟨?_, ?_⟩
          · rfl
          show Gives _ _ _ (.bool true) _
          refine Gives.val ?_
          go_simp
        rcases i with _ | i
        · obtain rfl := Option.some.inj ho
          have o3 : ρ (.tmp 3) = .pointer (some ⟨x0.heap.size, 0, none⟩) := hout (.tmp 3) rfl
          have yg : y 7 = some true := (hdep ⟨7, .guard⟩ (by simp) rfl).2 51 rfl
          have ocn : ∀ v, ρ (.const v) = v := fun v => hout (.const v) rfl
          have ofn : ∀ f, ρ (.func f) = .func (.func f) #[] #[] := fun f => hout (.func f) rfl
          clear hdep hout
          refine .inl ⟨?_, ?_⟩
          · show (y 7 == some true) = true
            rw [yg]; rfl
          show Gives _ _ _ (.pointer (some ⟨x0.heap.size, 4, none⟩)) _
          refine Gives.val ?_
          go_simp
        rcases i with _ | i
        · obtain rfl := Option.some.inj ho
          have e8 : ρ (.tmp 52) = .pointer (some ⟨x0.heap.size, 4, none⟩) := (hdep ⟨8, .data⟩ (by simp) rfl).1 52 rfl
          have yg : y 7 = some true := (hdep ⟨7, .guard⟩ (by simp) rfl).2 51 rfl
          have ocn : ∀ v, ρ (.const v) = v := fun v => hout (.const v) rfl
          have ofn : ∀ f, ρ (.func f) = .func (.func f) #[] #[] := fun f => hout (.func f) rfl
          clear hdep hout
          refine .inl ⟨?_, ?_⟩
          · show (y 7 == some true) = true
            rw [yg]; rfl
          have kb := K00.out.later hBx
          have c0 := kb.c 0 _ rfl
          have c3 := kb.c 3 _ rfl
          have c4 := kb.c 4 _ rfl
          have c5 := kb.c 5 _ rfl
          have c6 := kb.c 6 _ rfl
          have cl0 := kb.lt
          show Gives _ _ _ (.agg #[.int .i64 n4, .int .i64 n5, .int .i64 n6]) _
          refine Gives.val ?_
          go_simp
        rcases i with _ | i
        · obtain rfl := Option.some.inj ho
          have o3 : ρ (.tmp 3) = .pointer (some ⟨x0.heap.size, 0, none⟩) := hout (.tmp 3) rfl
          have yg : y 7 = some true := (hdep ⟨7, .guard⟩ (by simp) rfl).2 51 rfl
          have ocn : ∀ v, ρ (.const v) = v := fun v => hout (.const v) rfl
          have ofn : ∀ f, ρ (.func f) = .func (.func f) #[] #[] := fun f => hout (.func f) rfl
          clear hdep hout
          refine .inl ⟨?_, ?_⟩
          · show (y 7 == some true) = true
            rw [yg]; rfl
          show Gives _ _ _ (.pointer (some ⟨g, o + (fn - 1) * 6, none⟩)) _
          refine Gives.call (HTP.out x hBx) ?_
          go_simp
        rcases i with _ | i
        · obtain rfl := Option.some.inj ho
          have e9 : ρ (.tmp 53) = .agg #[.int .i64 n4, .int .i64 n5, .int .i64 n6] := (hdep ⟨9, .data⟩ (by simp) rfl).1 53 rfl
          have e10 : ρ (.tmp 54) = .pointer (some ⟨g, o + (fn - 1) * 6, none⟩) := (hdep ⟨10, .data⟩ (by simp) rfl).1 54 rfl
          have yg : y 7 = some true := (hdep ⟨7, .guard⟩ (by simp) rfl).2 51 rfl
          have ocn : ∀ v, ρ (.const v) = v := fun v => hout (.const v) rfl
          have ofn : ∀ f, ρ (.func f) = .func (.func f) #[] #[] := fun f => hout (.func f) rfl
          clear hdep hout
          refine .inl ⟨?_, ?_⟩
          · show (y 7 == some true) = true
            rw [yg]; rfl
          show Gives _ _ _ (.bool (decide (n4 = (topF F).p) && decide (n5 = (topF F).t))) _
          refine Gives.call (HIS.out x hBx) ?_
          go_simp
        rcases i with _ | i
        · obtain rfl := Option.some.inj ho
          have e7 : ρ (.tmp 51) = .bool true := (hdep ⟨7, .data⟩ (by simp) rfl).1 51 rfl
          have e11 : ρ (.tmp 55) = .bool (decide (n4 = (topF F).p) && decide (n5 = (topF F).t)) := (hdep ⟨11, .data⟩ (by simp) rfl).1 55 rfl
          have ocn : ∀ v, ρ (.const v) = v := fun v => hout (.const v) rfl
          have ofn : ∀ f, ρ (.func f) = .func (.func f) #[] #[] := fun f => hout (.func f) rfl
          clear hdep hout
          refine .inl ⟨?_, ?_⟩
          · rfl
          show Gives _ _ _ (.bool (decide (n4 = (topF F).p) && decide (n5 = (topF F).t))) _
          refine Gives.val ?_
          go_simp
        rcases i with _ | i
        · obtain rfl := Option.some.inj ho
          have e12 : ρ (.tmp 56) = .bool (decide (n4 = (topF F).p) && decide (n5 = (topF F).t)) := (hdep ⟨12, .data⟩ (by simp) rfl).1 56 rfl
          have ocn : ∀ v, ρ (.const v) = v := fun v => hout (.const v) rfl
          have ofn : ∀ f, ρ (.func f) = .func (.func f) #[] #[] := fun f => hout (.func f) rfl
          clear hdep hout
          refine .inl ⟨?_, ?_⟩
          · rfl
          show Gives _ _ _ (.bool (decide (n4 = (topF F).p) && decide (n5 = (topF F).t))) _
          refine Gives.val ?_
          go_simp
        cases ho
      case fin =>
        intro x hBx
        have hBf := HAl.out.trans (hBx.mono HAl.out.size)
        go_wp2_with fail
        go_ret
        exact ⟨retBool (by have hfl := HFN.out.1; first | (simp [endF, noSite, HFN.out.1, hs, hg, hso]; done) | (simp [endF, noSite, HFN.out.1, hs, hg, hso]; intros; omega) | (simp_all [endF, noSite]; done) | (simp_all [endF, noSite] <;> omega)), hBf⟩
  · by_cases e1 : n2 = 1
    · subst e1
      go_enter Try.func77, Try.ntmps77
      go_wp2_with fail
      go_ret
      exact ⟨retBool (by have hfl := HFN.out.1; first | (simp [endF, noSite, HFN.out.1, hs, hg]; done) | (simp [endF, noSite, HFN.out.1, hs, hg]; intros; omega) | (simp_all [endF, noSite]; done) | (simp_all [endF, noSite] <;> omega)), by first | exact (Below.refl _ _).alloc (Nat.le_refl _) _ | go_grown⟩
    · go_enter Try.func77, Try.ntmps77
      go_wp2_with fail
      all_goals
        go_ret
        exact ⟨retBool (by have hfl := HFN.out.1; first | (simp [endF, noSite, HFN.out.1, hs, hg, e1, e2, *]; done) | (simp [endF, noSite, HFN.out.1, hs, hg, e1, e2, *]; intros; omega) | (simp_all [endF, noSite]; done) | (simp_all [endF, noSite] <;> omega)), by first | exact (Below.refl _ _).alloc (Nat.le_refl _) _ | go_grown⟩

set_option maxRecDepth 100000 in
set_option maxHeartbeats 8000000 in
theorem endOk_S1G0 (x0 : World) (B : Nat) (v : Value) (P : List (List I4)) (h : ProgAt x0 B v P) (hok : progOkF P = true) (s : Value) (F : List Fr) (hF : FrsAt x0 s F) (hl5 : F.length ≤ 5) (n1 n2 n3 n4 n5 n6 : Int) (hs0 : n4 = 0) (hs : ¬ n5 = 0) (hg : F.length = 0) :
    Calls Try.prog 77 #[v, aggRun s (n1, n2, n3, n4, n5, n6)] x0 fun e y => e = .returned (.bool (endF P F n2 n3 (n4, n5, n6))) ∧ Below x0.heap.size x0 y := by
  obtain ⟨p, cap, rfl, _⟩ := h.shape
  obtain ⟨ps, cs, rfl, _⟩ := hF.shape
  unfold aggRun
  dsimp only
  have H : Hid (ProgAt x0 B (.slice p P.length cap) P) := h
  have HOK : Hid (progOkF P = true) := hok
  have HS : Hid (FrsAt x0 (.slice ps F.length cs) F) := hF
  have hl := progOkF_len hok
  have hn4 : (P.length : Int) ≤ 4 := by omega
  have hf5 : (F.length : Int) ≤ 5 := by omega
  clear h hok hF hl
  subst hs0
  have hsb : (n5 == 0) = false := by simpa using hs
  generalize hfn : F.length = fn at *
  generalize hpn : P.length = pn at *
  have HFN : Hid (F.length = fn ∧ P.length = pn) := ⟨hfn, hpn⟩
  clear hfn hpn
  subst hg
  by_cases e2 : n2 = 2
  · subst e2
    have HAl : Hid (Below x0.heap.size x0 (x0.alloc (.cells #[.slice ps 0 cs, .int .i64 n1, .int .i64 2, .int .i64 n3, .int .i64 0, .int .i64 n5, .int .i64 n6] 56))) := (Below.refl _ _).alloc (Nat.le_refl _) _
    have K00 : Hid (BxN (x0.alloc (.cells #[.slice ps 0 cs, .int .i64 n1, .int .i64 2, .int .i64 n3, .int .i64 0, .int .i64 n5, .int .i64 n6] 56)) x0.heap.size [.slice ps 0 cs, .int .i64 n1, .int .i64 2, .int .i64 n3, .int .i64 0, .int .i64 n5, .int .i64 n6]) := BxN.new x0 [_, _, _, _, _, _, _] _
    go_enter Try.func77, Try.ntmps77
    go_wp2_with fail
    generalize x0.alloc (.cells #[.slice ps 0 cs, .int .i64 n1, .int .i64 2, .int .i64 n3, .int .i64 0, .int .i64 n5, .int .i64 n6] 56) = X at HAl K00 ⊢
    refine wp_region_vals (by kernel_rfl) (by kernel_rfl) (by kernel_rfl) (by kernel_rfl) (fun j => [.bool false, .bool false, undef, undef, undef, undef, .bool false, .bool false, undef, undef, undef, undef, .bool false, .bool false].getD j undef) X (Below.drew (Below.refl _ _)) ?step ⟨#[.slice p pn cap, .agg #[.slice ps 0 cs, .int .i64 n1, .int .i64 2, .int .i64 n3, .int .i64 0, .int .i64 n5, .int .i64 n6], undef, .pointer (some ⟨x0.heap.size, 0, none⟩), .bool false, .bool false, .bool false, .pointer (some ⟨x0.heap.size, 0, none⟩), .slice ps 0 cs, .int .i64 0, .bool false, .bool false, undef, undef, undef, .bool false, .pointer (some ⟨x0.heap.size, 4, none⟩), .agg #[.int .i64 0, .int .i64 n5, .int .i64 n6], .agg #[.int .i64 0, .int .i64 0, .int .i64 0], .bool false, .pointer (some ⟨x0.heap.size, 2, none⟩), .int .i64 2, .bool false, .bool false, undef, undef, undef, undef, .bool false, .bool false, undef, undef, undef, undef, undef, undef, undef, undef, undef, undef, undef, undef, .bool true, .bool true, .bool false, .bool false, undef, undef, undef, undef, .bool false, .bool false, undef, undef, undef, undef, .bool false, undef, undef, undef, undef, undef, undef, undef, undef, undef, undef, undef, undef], []⟩ (by kernel_rfl) ?fin
    case step =>
      intro i o ho ρ y x hBx hdep hout
      rcases i with _ | i
      · obtain rfl := Option.some.inj ho
        have o5 : ρ (.tmp 5) = .bool false := hout (.tmp 5) rfl
        have ocn : ∀ v, ρ (.const v) = v := fun v => hout (.const v) rfl
        have ofn : ∀ f, ρ (.func f) = .func (.func f) #[] #[] := fun f => hout (.func f) rfl
        clear hdep hout
        refine .inl ⟨?_, ?_⟩
        · rfl
        show Gives _ _ _ (.bool false) _
        refine Gives.val ?_
        go_simp
      rcases i with _ | i
      · obtain rfl := Option.some.inj ho
        have e0 : ρ (.tmp 44) = .bool false := (hdep ⟨0, .data⟩ (by simp) rfl).1 44 rfl
        have ocn : ∀ v, ρ (.const v) = v := fun v => hout (.const v) rfl
        have ofn : ∀ f, ρ (.func f) = .func (.func f) #[] #[] := fun f => hout (.func f) rfl
        clear hdep hout
        refine .inl ⟨?_, ?_⟩
        · rfl
        show Gives _ _ _ (.bool false) _
        refine Gives.val ?_
        go_simp
      rcases i with _ | i
      · obtain rfl := Option.some.inj ho
        have o0 : ρ (.tmp 0) = .slice p pn cap := hout (.tmp 0) rfl
        have yg : y 1 = some false := (hdep ⟨1, .guard⟩ (by simp) rfl).2 45 rfl
        have ocn : ∀ v, ρ (.const v) = v := fun v => hout (.const v) rfl
        have ofn : ∀ f, ρ (.func f) = .func (.func f) #[] #[] := fun f => hout (.func f) rfl
        clear hdep hout
        refine .inr ⟨?_, rfl⟩
        show (y 1 == some true) = false
        rw [yg]; rfl
      rcases i with _ | i
      · obtain rfl := Option.some.inj ho
        have o3 : ρ (.tmp 3) = .pointer (some ⟨x0.heap.size, 0, none⟩) := hout (.tmp 3) rfl
        have yg : y 1 = some false := (hdep ⟨1, .guard⟩ (by simp) rfl).2 45 rfl
        have ocn : ∀ v, ρ (.const v) = v := fun v => hout (.const v) rfl
        have ofn : ∀ f, ρ (.func f) = .func (.func f) #[] #[] := fun f => hout (.func f) rfl
        clear hdep hout
        refine .inr ⟨?_, rfl⟩
        show (y 1 == some true) = false
        rw [yg]; rfl
      rcases i with _ | i
      · obtain rfl := Option.some.inj ho
        have e3 : ρ (.tmp 47) = undef := (hdep ⟨3, .data⟩ (by simp) rfl).1 47 rfl
        have yg : y 1 = some false := (hdep ⟨1, .guard⟩ (by simp) rfl).2 45 rfl
        have ocn : ∀ v, ρ (.const v) = v := fun v => hout (.const v) rfl
        have ofn : ∀ f, ρ (.func f) = .func (.func f) #[] #[] := fun f => hout (.func f) rfl
        clear hdep hout
        refine .inr ⟨?_, rfl⟩
        show (y 1 == some true) = false
        rw [yg]; rfl
      rcases i with _ | i
      · obtain rfl := Option.some.inj ho
        have e2 : ρ (.tmp 46) = undef := (hdep ⟨2, .data⟩ (by simp) rfl).1 46 rfl
        have e4 : ρ (.tmp 48) = undef := (hdep ⟨4, .data⟩ (by simp) rfl).1 48 rfl
        have yg : y 1 = some false := (hdep ⟨1, .guard⟩ (by simp) rfl).2 45 rfl
        have ocn : ∀ v, ρ (.const v) = v := fun v => hout (.const v) rfl
        have ofn : ∀ f, ρ (.func f) = .func (.func f) #[] #[] := fun f => hout (.func f) rfl
        clear hdep hout
        refine .inr ⟨?_, rfl⟩
        show (y 1 == some true) = false
        rw [yg]; rfl
      rcases i with _ | i
      · obtain rfl := Option.some.inj ho
        have e1 : ρ (.tmp 45) = .bool false := (hdep ⟨1, .data⟩ (by simp) rfl).1 45 rfl
        have e5 : ρ (.tmp 49) = undef := (hdep ⟨5, .data⟩ (by simp) rfl).1 49 rfl
        have ocn : ∀ v, ρ (.const v) = v := fun v => hout (.const v) rfl
        have ofn : ∀ f, ρ (.func f) = .func (.func f) #[] #[] := fun f => hout (.func f) rfl
        clear hdep hout
        refine .inl ⟨?_, ?_⟩
        · rfl
        show Gives _ _ _ (.bool false) _
        refine Gives.val ?_
        go_simp
      rcases i with _ | i
      · obtain rfl := Option.some.inj ho
        have e6 : ρ (.tmp 50) = .bool false := (hdep ⟨6, .data⟩ (by simp) rfl).1 50 rfl
        have ocn : ∀ v, ρ (.const v) = v := fun v => hout (.const v) rfl
        have ofn : ∀ f, ρ (.func f) = .func (.func f) #[] #[] := fun f => hout (.func f) rfl
        clear hdep hout
        refine .inl ⟨?_, ?_⟩
        · rfl
        show Gives _ _ _ (.bool false) _
        refine Gives.val ?_
        go_simp
      rcases i with _ | i
      · obtain rfl := Option.some.inj ho
        have o3 : ρ (.tmp 3) = .pointer (some ⟨x0.heap.size, 0, none⟩) := hout (.tmp 3) rfl
        have yg : y 7 = some false := (hdep ⟨7, .guard⟩ (by simp) rfl).2 51 rfl
        have ocn : ∀ v, ρ (.const v) = v := fun v => hout (.const v) rfl
        have ofn : ∀ f, ρ (.func f) = .func (.func f) #[] #[] := fun f => hout (.func f) rfl
        clear hdep hout
        refine .inr ⟨?_, rfl⟩
        show (y 7 == some true) = false
        rw [yg]; rfl
      rcases i with _ | i
      · obtain rfl := Option.some.inj ho
        have e8 : ρ (.tmp 52) = undef := (hdep ⟨8, .data⟩ (by simp) rfl).1 52 rfl
        have yg : y 7 = some false := (hdep ⟨7, .guard⟩ (by simp) rfl).2 51 rfl
        have ocn : ∀ v, ρ (.const v) = v := fun v => hout (.const v) rfl
        have ofn : ∀ f, ρ (.func f) = .func (.func f) #[] #[] := fun f => hout (.func f) rfl
        clear hdep hout
        refine .inr ⟨?_, rfl⟩
        show (y 7 == some true) = false
        rw [yg]; rfl
      rcases i with _ | i
      · obtain rfl := Option.some.inj ho
        have o3 : ρ (.tmp 3) = .pointer (some ⟨x0.heap.size, 0, none⟩) := hout (.tmp 3) rfl
        have yg : y 7 = some false := (hdep ⟨7, .guard⟩ (by simp) rfl).2 51 rfl
        have ocn : ∀ v, ρ (.const v) = v := fun v => hout (.const v) rfl
        have ofn : ∀ f, ρ (.func f) = .func (.func f) #[] #[] := fun f => hout (.func f) rfl
        clear hdep hout
        refine .inr ⟨?_, rfl⟩
        show (y 7 == some true) = false
        rw [yg]; rfl
      rcases i with _ | i
      · obtain rfl := Option.some.inj ho
        have e9 : ρ (.tmp 53) = undef := (hdep ⟨9, .data⟩ (by simp) rfl).1 53 rfl
        have e10 : ρ (.tmp 54) = undef := (hdep ⟨10, .data⟩ (by simp) rfl).1 54 rfl
        have yg : y 7 = some false := (hdep ⟨7, .guard⟩ (by simp) rfl).2 51 rfl
        have ocn : ∀ v, ρ (.const v) = v := fun v => hout (.const v) rfl
        have ofn : ∀ f, ρ (.func f) = .func (.func f) #[] #[] := fun f => hout (.func f) rfl
        clear hdep hout
        refine .inr ⟨?_, rfl⟩
        show (y 7 == some true) = false
        rw [yg]; rfl
      rcases i with _ | i
      · obtain rfl := Option.some.inj ho
        have e7 : ρ (.tmp 51) = .bool false := (hdep ⟨7, .data⟩ (by simp) rfl).1 51 rfl
        have e11 : ρ (.tmp 55) = undef := (hdep ⟨11, .data⟩ (by simp) rfl).1 55 rfl
        have ocn : ∀ v, ρ (.const v) = v := fun v => hout (.const v) rfl
        have ofn : ∀ f, ρ (.func f) = .func (.func f) #[] #[] := fun f => hout (.func f) rfl
        clear hdep hout
        refine .inl ⟨?_, ?_⟩
        · rfl
        show Gives _ _ _ (.bool false) _
        refine Gives.val ?_
        go_simp
      rcases i with _ | i
      · obtain rfl := Option.some.inj ho
        have e12 : ρ (.tmp 56) = .bool false := (hdep ⟨12, .data⟩ (by simp) rfl).1 56 rfl
        have ocn : ∀ v, ρ (.const v) = v := fun v => hout (.const v) rfl
        have ofn : ∀ f, ρ (.func f) = .func (.func f) #[] #[] := fun f => hout (.func f) rfl
        clear hdep hout
        refine .inl ⟨?_, ?_⟩
        · rfl
        show Gives _ _ _ (.bool false) _
        refine Gives.val ?_
        go_simp
      cases ho
    case fin =>
      intro x hBx
      have hBf := HAl.out.trans (hBx.mono HAl.out.size)
      go_wp2_with fail
      go_ret
      exact ⟨retBool (by have hfl := HFN.out.1; first | (simp [endF, noSite, HFN.out.1, hs]; done) | (simp [endF, noSite, HFN.out.1, hs]; intros; omega) | (simp_all [endF, noSite]; done) | (simp_all [endF, noSite] <;> omega)), hBf⟩
  · by_cases e1 : n2 = 1
    · subst e1
      go_enter Try.func77, Try.ntmps77
      go_wp2_with fail
      refine (isWord_e n3 _).mono ?_
      rintro e z ⟨rfl, rfl⟩
      cases hw : inI n3 (-16) 15
      all_goals
        go_wp2_with fail
        go_ret
        exact ⟨retBool (by have hfl := HFN.out.1; first | (simp [endF, noSite, HFN.out.1, hs, wdF, hw]; done) | (simp [endF, noSite, HFN.out.1, hs, wdF, hw]; intros; omega) | (simp_all [endF, noSite]; done) | (simp_all [endF, noSite] <;> omega)), by first | exact (Below.refl _ _).alloc (Nat.le_refl _) _ | go_grown⟩
    · go_enter Try.func77, Try.ntmps77
      go_wp2_with fail
      all_goals
        go_ret
        exact ⟨retBool (by have hfl := HFN.out.1; first | (simp [endF, noSite, HFN.out.1, hs, e1, e2, *]; done) | (simp [endF, noSite, HFN.out.1, hs, e1, e2, *]; intros; omega) | (simp_all [endF, noSite]; done) | (simp_all [endF, noSite] <;> omega)), by first | exact (Below.refl _ _).alloc (Nat.le_refl _) _ | go_grown⟩

set_option maxRecDepth 100000 in
set_option maxHeartbeats 8000000 in
theorem endOk_S1G1 (x0 : World) (B : Nat) (v : Value) (P : List (List I4)) (h : ProgAt x0 B v P) (hok : progOkF P = true) (s : Value) (F : List Fr) (hF : FrsAt x0 s F) (hl5 : F.length ≤ 5) (n1 n2 n3 n4 n5 n6 : Int) (hs0 : n4 = 0) (hs : ¬ n5 = 0) (hg : 0 < F.length) (ho : ¬ n3 = 0) :
    Calls Try.prog 77 #[v, aggRun s (n1, n2, n3, n4, n5, n6)] x0 fun e y => e = .returned (.bool (endF P F n2 n3 (n4, n5, n6))) ∧ Below x0.heap.size x0 y := by
  obtain ⟨p, cap, rfl, _⟩ := h.shape
  obtain ⟨ps, cs, rfl, _⟩ := hF.shape
  unfold aggRun
  dsimp only
  have H : Hid (ProgAt x0 B (.slice p P.length cap) P) := h
  have HOK : Hid (progOkF P = true) := hok
  have HS : Hid (FrsAt x0 (.slice ps F.length cs) F) := hF
  have hl := progOkF_len hok
  have hn4 : (P.length : Int) ≤ 4 := by omega
  have hf5 : (F.length : Int) ≤ 5 := by omega
  clear h hok hF hl
  subst hs0
  have hsb : (n5 == 0) = false := by simpa using hs
  have hob : (n3 == 0) = false := by simpa using ho
  generalize hfn : F.length = fn at *
  generalize hpn : P.length = pn at *
  have HFN : Hid (F.length = fn ∧ P.length = pn) := ⟨hfn, hpn⟩
  clear hfn hpn
  have hgi : (0 : Int) < (fn : Int) := by omega
  by_cases e2 : n2 = 2
  · subst e2
    have HAl : Hid (Below x0.heap.size x0 (x0.alloc (.cells #[.slice ps fn cs, .int .i64 n1, .int .i64 2, .int .i64 n3, .int .i64 0, .int .i64 n5, .int .i64 n6] 56))) := (Below.refl _ _).alloc (Nat.le_refl _) _
    have K00 : Hid (BxN (x0.alloc (.cells #[.slice ps fn cs, .int .i64 n1, .int .i64 2, .int .i64 n3, .int .i64 0, .int .i64 n5, .int .i64 n6] 56)) x0.heap.size [.slice ps fn cs, .int .i64 n1, .int .i64 2, .int .i64 n3, .int .i64 0, .int .i64 n5, .int .i64 n6]) := BxN.new x0 [_, _, _, _, _, _, _] _
    go_enter Try.func77, Try.ntmps77
    go_wp2_with fail
    generalize x0.alloc (.cells #[.slice ps fn cs, .int .i64 n1, .int .i64 2, .int .i64 n3, .int .i64 0, .int .i64 n5, .int .i64 n6] 56) = X at HAl K00 ⊢
    refine wp_region_vals (by kernel_rfl) (by kernel_rfl) (by kernel_rfl) (by kernel_rfl) (fun j => [.bool false, .bool false, undef, undef, undef, undef, .bool false, .bool false, undef, undef, undef, undef, .bool false, .bool false].getD j undef) X (Below.drew (Below.refl _ _)) ?step ⟨#[.slice p pn cap, .agg #[.slice ps fn cs, .int .i64 n1, .int .i64 2, .int .i64 n3, .int .i64 0, .int .i64 n5, .int .i64 n6], undef, .pointer (some ⟨x0.heap.size, 0, none⟩), .bool false, .bool false, .bool false, .pointer (some ⟨x0.heap.size, 0, none⟩), .slice ps fn cs, .int .i64 ↑fn, .bool true, .bool true, .pointer (some ⟨x0.heap.size, 3, none⟩), .int .i64 n3, .bool false, .bool false, .pointer (some ⟨x0.heap.size, 4, none⟩), .agg #[.int .i64 0, .int .i64 n5, .int .i64 n6], .agg #[.int .i64 0, .int .i64 0, .int .i64 0], .bool false, .pointer (some ⟨x0.heap.size, 2, none⟩), .int .i64 2, .bool false, .bool false, undef, undef, undef, undef, .bool false, .bool false, undef, undef, undef, undef, undef, undef, undef, undef, undef, undef, undef, undef, .bool true, .bool true, .bool false, .bool false, undef, undef, undef, undef, .bool false, .bool false, undef, undef, undef, undef, .bool false, undef, undef, undef, undef, undef, undef, undef, undef, undef, undef, undef, undef], []⟩ (by kernel_rfl) ?fin
    case step =>
      intro i o ho ρ y x hBx hdep hout
      rcases i with _ | i
      · obtain rfl := Option.some.inj ho
        have o5 : ρ (.tmp 5) = .bool false := hout (.tmp 5) rfl
        have ocn : ∀ v, ρ (.const v) = v := fun v => hout (.const v) rfl
        have ofn : ∀ f, ρ (.func f) = .func (.func f) #[] #[] := fun f => hout (.func f) rfl
        clear hdep hout
        refine .inl ⟨?_, ?_⟩
        · rfl
        show Gives _ _ _ (.bool false) _
        refine Gives.val ?_
        go_simp
      rcases i with _ | i
      · obtain rfl := Option.some.inj ho
        have e0 : ρ (.tmp 44) = .bool false := (hdep ⟨0, .data⟩ (by simp) rfl).1 44 rfl
        have ocn : ∀ v, ρ (.const v) = v := fun v => hout (.const v) rfl
        have ofn : ∀ f, ρ (.func f) = .func (.func f) #[] #[] := fun f => hout (.func f) rfl
        clear hdep hout
        refine .inl ⟨?_, ?_⟩
        · rfl
        show Gives _ _ _ (.bool false) _
        refine Gives.val ?_
        go_simp
      rcases i with _ | i
      · obtain rfl := Option.some.inj ho
        have o0 : ρ (.tmp 0) = .slice p pn cap := hout (.tmp 0) rfl
        have yg : y 1 = some false := (hdep ⟨1, .guard⟩ (by simp) rfl).2 45 rfl
        have ocn : ∀ v, ρ (.const v) = v := fun v => hout (.const v) rfl
        have ofn : ∀ f, ρ (.func f) = .func (.func f) #[] #[] := fun f => hout (.func f) rfl
        clear hdep hout
        refine .inr ⟨?_, rfl⟩
        show (y 1 == some true) = false
        rw [yg]; rfl
      rcases i with _ | i
      · obtain rfl := Option.some.inj ho
        have o3 : ρ (.tmp 3) = .pointer (some ⟨x0.heap.size, 0, none⟩) := hout (.tmp 3) rfl
        have yg : y 1 = some false := (hdep ⟨1, .guard⟩ (by simp) rfl).2 45 rfl
        have ocn : ∀ v, ρ (.const v) = v := fun v => hout (.const v) rfl
        have ofn : ∀ f, ρ (.func f) = .func (.func f) #[] #[] := fun f => hout (.func f) rfl
        clear hdep hout
        refine .inr ⟨?_, rfl⟩
        show (y 1 == some true) = false
        rw [yg]; rfl
      rcases i with _ | i
      · obtain rfl := Option.some.inj ho
        have e3 : ρ (.tmp 47) = undef := (hdep ⟨3, .data⟩ (by simp) rfl).1 47 rfl
        have yg : y 1 = some false := (hdep ⟨1, .guard⟩ (by simp) rfl).2 45 rfl
        have ocn : ∀ v, ρ (.const v) = v := fun v => hout (.const v) rfl
        have ofn : ∀ f, ρ (.func f) = .func (.func f) #[] #[] := fun f => hout (.func f) rfl
        clear hdep hout
        refine .inr ⟨?_, rfl⟩
        show (y 1 == some true) = false
        rw [yg]; rfl
      rcases i with _ | i
      · obtain rfl := Option.some.inj ho
        have e2 : ρ (.tmp 46) = undef := (hdep ⟨2, .data⟩ (by simp) rfl).1 46 rfl
        have e4 : ρ (.tmp 48) = undef := (hdep ⟨4, .data⟩ (by simp) rfl).1 48 rfl
        have yg : y 1 = some false := (hdep ⟨1, .guard⟩ (by simp) rfl).2 45 rfl
        have ocn : ∀ v, ρ (.const v) = v := fun v => hout (.const v) rfl
        have ofn : ∀ f, ρ (.func f) = .func (.func f) #[] #[] := fun f => hout (.func f) rfl
        clear hdep hout
        refine .inr ⟨?_, rfl⟩
        show (y 1 == some true) = false
        rw [yg]; rfl
      rcases i with _ | i
      · obtain rfl := Option.some.inj ho
        have e1 : ρ (.tmp 45) = .bool false := (hdep ⟨1, .data⟩ (by simp) rfl).1 45 rfl
        have e5 : ρ (.tmp 49) = undef := (hdep ⟨5, .data⟩ (by simp) rfl).1 49 rfl
        have ocn : ∀ v, ρ (.const v) = v := fun v => hout (.const v) rfl
        have ofn : ∀ f, ρ (.func f) = .func (.func f) #[] #[] := fun f => hout (.func f) rfl
        clear hdep hout
        refine .inl ⟨?_, ?_⟩
        · rfl
        show Gives _ _ _ (.bool false) _
        refine Gives.val ?_
        go_simp
      rcases i with _ | i
      · obtain rfl := Option.some.inj ho
        have e6 : ρ (.tmp 50) = .bool false := (hdep ⟨6, .data⟩ (by simp) rfl).1 50 rfl
        have ocn : ∀ v, ρ (.const v) = v := fun v => hout (.const v) rfl
        have ofn : ∀ f, ρ (.func f) = .func (.func f) #[] #[] := fun f => hout (.func f) rfl
        clear hdep hout
        refine .inl ⟨?_, ?_⟩
        · rfl
        show Gives _ _ _ (.bool false) _
        refine Gives.val ?_
        go_simp
      rcases i with _ | i
      · obtain rfl := Option.some.inj ho
        have o3 : ρ (.tmp 3) = .pointer (some ⟨x0.heap.size, 0, none⟩) := hout (.tmp 3) rfl
        have yg : y 7 = some false := (hdep ⟨7, .guard⟩ (by simp) rfl).2 51 rfl
        have ocn : ∀ v, ρ (.const v) = v := fun v => hout (.const v) rfl
        have ofn : ∀ f, ρ (.func f) = .func (.func f) #[] #[] := fun f => hout (.func f) rfl
        clear hdep hout
        refine .inr ⟨?_, rfl⟩
        show (y 7 == some true) = false
        rw [yg]; rfl
      rcases i with _ | i
      · obtain rfl := Option.some.inj ho
        have e8 : ρ (.tmp 52) = undef := (hdep ⟨8, .data⟩ (by simp) rfl).1 52 rfl
        have yg : y 7 = some false := (hdep ⟨7, .guard⟩ (by simp) rfl).2 51 rfl
        have ocn : ∀ v, ρ (.const v) = v := fun v => hout (.const v) rfl
        have ofn : ∀ f, ρ (.func f) = .func (.func f) #[] #[] := fun f => hout (.func f) rfl
        clear hdep hout
        refine .inr ⟨?_, rfl⟩
        show (y 7 == some true) = false
        rw [yg]; rfl
      rcases i with _ | i
      · obtain rfl := Option.some.inj ho
        have o3 : ρ (.tmp 3) = .pointer (some ⟨x0.heap.size, 0, none⟩) := hout (.tmp 3) rfl
        have yg : y 7 = some false := (hdep ⟨7, .guard⟩ (by simp) rfl).2 51 rfl
        have ocn : ∀ v, ρ (.const v) = v := fun v => hout (.const v) rfl
        have ofn : ∀ f, ρ (.func f) = .func (.func f) #[] #[] := fun f => hout (.func f) rfl
        clear hdep hout
        refine .inr ⟨?_, rfl⟩
        show (y 7 == some true) = false
        rw [yg]; rfl
      rcases i with _ | i
      · obtain rfl := Option.some.inj ho
        have e9 : ρ (.tmp 53) = undef := (hdep ⟨9, .data⟩ (by simp) rfl).1 53 rfl
        have e10 : ρ (.tmp 54) = undef := (hdep ⟨10, .data⟩ (by simp) rfl).1 54 rfl
        have yg : y 7 = some false := (hdep ⟨7, .guard⟩ (by simp) rfl).2 51 rfl
        have ocn : ∀ v, ρ (.const v) = v := fun v => hout (.const v) rfl
        have ofn : ∀ f, ρ (.func f) = .func (.func f) #[] #[] := fun f => hout (.func f) rfl
        clear hdep hout
        refine .inr ⟨?_, rfl⟩
        show (y 7 == some true) = false
        rw [yg]; rfl
      rcases i with _ | i
      · obtain rfl := Option.some.inj ho
        have e7 : ρ (.tmp 51) = .bool false := (hdep ⟨7, .data⟩ (by simp) rfl).1 51 rfl
        have e11 : ρ (.tmp 55) = undef := (hdep ⟨11, .data⟩ (by simp) rfl).1 55 rfl
        have ocn : ∀ v, ρ (.const v) = v := fun v => hout (.const v) rfl
        have ofn : ∀ f, ρ (.func f) = .func (.func f) #[] #[] := fun f => hout (.func f) rfl
        clear hdep hout
        refine .inl ⟨?_, ?_⟩
        · rfl
        show Gives _ _ _ (.bool false) _
        refine Gives.val ?_
        go_simp
      rcases i with _ | i
      · obtain rfl := Option.some.inj ho
        have e12 : ρ (.tmp 56) = .bool false := (hdep ⟨12, .data⟩ (by simp) rfl).1 56 rfl
        have ocn : ∀ v, ρ (.const v) = v := fun v => hout (.const v) rfl
        have ofn : ∀ f, ρ (.func f) = .func (.func f) #[] #[] := fun f => hout (.func f) rfl
        clear hdep hout
        refine .inl ⟨?_, ?_⟩
        · rfl
        show Gives _ _ _ (.bool false) _
        refine Gives.val ?_
        go_simp
      cases ho
    case fin =>
      intro x hBx
      have hBf := HAl.out.trans (hBx.mono HAl.out.size)
      go_wp2_with fail
      go_ret
      exact ⟨retBool (by have hfl := HFN.out.1; first | (simp [endF, noSite, HFN.out.1, hs, ho]; done) | (simp [endF, noSite, HFN.out.1, hs, ho]; intros; omega) | (simp_all [endF, noSite]; done) | (simp_all [endF, noSite] <;> omega)), hBf⟩
  · by_cases e1 : n2 = 1
    · subst e1
      go_enter Try.func77, Try.ntmps77
      go_wp2_with fail
      go_ret
      exact ⟨retBool (by have hfl := HFN.out.1; first | (simp [endF, noSite, HFN.out.1, hs, ho]; done) | (simp [endF, noSite, HFN.out.1, hs, ho]; intros; omega) | (simp_all [endF, noSite]; done) | (simp_all [endF, noSite] <;> omega)), by first | exact (Below.refl _ _).alloc (Nat.le_refl _) _ | go_grown⟩
    · go_enter Try.func77, Try.ntmps77
      go_wp2_with fail
      all_goals
        go_ret
        exact ⟨retBool (by have hfl := HFN.out.1; first | (simp [endF, noSite, HFN.out.1, hs, ho, e1, e2, *]; done) | (simp [endF, noSite, HFN.out.1, hs, ho, e1, e2, *]; intros; omega) | (simp_all [endF, noSite]; done) | (simp_all [endF, noSite] <;> omega)), by first | exact (Below.refl _ _).alloc (Nat.le_refl _) _ | go_grown⟩

set_option maxRecDepth 100000 in
set_option maxHeartbeats 8000000 in
theorem endOk_S1G2 (x0 : World) (B : Nat) (v : Value) (P : List (List I4)) (h : ProgAt x0 B v P) (hok : progOkF P = true) (s : Value) (F : List Fr) (hF : FrsAt x0 s F) (hl5 : F.length ≤ 5) (n1 n2 n3 n4 n5 n6 : Int) (hs0 : n4 = 0) (hs : ¬ n5 = 0) (hg : 0 < F.length) (ho : n3 = 0) :
    Calls Try.prog 77 #[v, aggRun s (n1, n2, n3, n4, n5, n6)] x0 fun e y => e = .returned (.bool (endF P F n2 n3 (n4, n5, n6))) ∧ Below x0.heap.size x0 y := by
  obtain ⟨p, cap, rfl, _⟩ := h.shape
  obtain ⟨ps, cs, rfl, _⟩ := hF.shape
  unfold aggRun
  dsimp only
  have H : Hid (ProgAt x0 B (.slice p P.length cap) P) := h
  have HOK : Hid (progOkF P = true) := hok
  have HS : Hid (FrsAt x0 (.slice ps F.length cs) F) := hF
  have hl := progOkF_len hok
  have hn4 : (P.length : Int) ≤ 4 := by omega
  have hf5 : (F.length : Int) ≤ 5 := by omega
  clear h hok hF hl
  subst hs0
  have hsb : (n5 == 0) = false := by simpa using hs
  subst ho
  generalize hfn : F.length = fn at *
  generalize hpn : P.length = pn at *
  have HFN : Hid (F.length = fn ∧ P.length = pn) := ⟨hfn, hpn⟩
  clear hfn hpn
  have hgi : (0 : Int) < (fn : Int) := by omega
  by_cases e2 : n2 = 2
  · subst e2
    have HAl : Hid (Below x0.heap.size x0 (x0.alloc (.cells #[.slice ps fn cs, .int .i64 n1, .int .i64 2, .int .i64 0, .int .i64 0, .int .i64 n5, .int .i64 n6] 56))) := (Below.refl _ _).alloc (Nat.le_refl _) _
    have K00 : Hid (BxN (x0.alloc (.cells #[.slice ps fn cs, .int .i64 n1, .int .i64 2, .int .i64 0, .int .i64 0, .int .i64 n5, .int .i64 n6] 56)) x0.heap.size [.slice ps fn cs, .int .i64 n1, .int .i64 2, .int .i64 0, .int .i64 0, .int .i64 n5, .int .i64 n6]) := BxN.new x0 [_, _, _, _, _, _, _] _
    go_enter Try.func77, Try.ntmps77
    go_wp2_with fail
    generalize x0.alloc (.cells #[.slice ps fn cs, .int .i64 n1, .int .i64 2, .int .i64 0, .int .i64 0, .int .i64 n5, .int .i64 n6] 56) = X at HAl K00 ⊢
    cases hso : siteOkF P (0, n5, n6)
    · skip
      have HSO : Hid (∀ z : World, Below x0.heap.size x0 z → Calls Try.prog 111 #[.slice p pn cap, .agg #[.int .i64 0, .int .i64 n5, .int .i64 n6]] z fun e y => e = .returned (.bool false) ∧ Below z.heap.size z y) := fun z hz => by
        have := siteOk_any z B (.slice p pn cap) P (H.out.later hz) HOK.out (0, n5, n6)
        rw [hso] at this; exact this
      refine wp_region_vals (by kernel_rfl) (by kernel_rfl) (by kernel_rfl) (by kernel_rfl) (fun j => [.bool true, .bool true, .slice p pn cap, .pointer (some ⟨x0.heap.size, 4, none⟩), .agg #[.int .i64 0, .int .i64 n5, .int .i64 n6], .bool false, .bool false, .bool false, undef, undef, undef, undef, .bool false, .bool false].getD j undef) X (Below.drew (Below.refl _ _)) ?step ⟨#[.slice p pn cap, .agg #[.slice ps fn cs, .int .i64 n1, .int .i64 2, .int .i64 0, .int .i64 0, .int .i64 n5, .int .i64 n6], undef, .pointer (some ⟨x0.heap.size, 0, none⟩), .bool false, .bool true, .bool false, .pointer (some ⟨x0.heap.size, 0, none⟩), .slice ps fn cs, .int .i64 ↑fn, .bool true, .bool true, .pointer (some ⟨x0.heap.size, 3, none⟩), .int .i64 0, .bool true, .bool true, .pointer (some ⟨x0.heap.size, 4, none⟩), .agg #[.int .i64 0, .int .i64 n5, .int .i64 n6], .agg #[.int .i64 0, .int .i64 0, .int .i64 0], .bool false, .pointer (some ⟨x0.heap.size, 2, none⟩), .int .i64 2, .bool false, .bool false, undef, undef, undef, undef, .bool false, .bool false, undef, undef, undef, undef, undef, undef, undef, undef, undef, undef, undef, undef, .bool true, .bool true, .bool true, .bool true, .slice p pn cap, .pointer (some ⟨x0.heap.size, 4, none⟩), .agg #[.int .i64 0, .int .i64 n5, .int .i64 n6], .bool false, .bool false, .bool false, undef, undef, undef, undef, .bool false, undef, undef, undef, undef, undef, undef, undef, undef, undef, undef, undef, undef], []⟩ (by kernel_rfl) ?fin
      case step =>
        intro i o ho ρ y x hBx hdep hout
        rcases i with _ | i
        · obtain rfl := Option.some.inj ho
          have o5 : ρ (.tmp 5) = .bool true := hout (.tmp 5) rfl
          have ocn : ∀ v, ρ (.const v) = v := fun v => hout (.const v) rfl
          have ofn : ∀ f, ρ (.func f) = .func (.func f) #[] #[] := fun f => hout (.func f) rfl
          clear hdep hout
          refine .inl ⟨?_, ?_⟩
          · rfl
          show Gives _ _ _ (.bool true) _
          refine Gives.val ?_
          go_simp
        rcases i with _ | i
        · obtain rfl := Option.some.inj ho
          have e0 : ρ (.tmp 44) = .bool true := (hdep ⟨0, .data⟩ (by simp) rfl).1 44 rfl
          have ocn : ∀ v, ρ (.const v) = v := fun v => hout (.const v) rfl
          have ofn : ∀ f, ρ (.func f) = .func (.func f) #[] #[] := fun f => hout (.func f) rfl
          clear hdep hout
          refine .inl ⟨?_, ?_⟩
          · rfl
          show Gives _ _ _ (.bool true) _
          refine Gives.val ?_
          go_simp
        rcases i with _ | i
        · obtain rfl := Option.some.inj ho
          have o0 : ρ (.tmp 0) = .slice p pn cap := hout (.tmp 0) rfl
          have yg : y 1 = some true := (hdep ⟨1, .guard⟩ (by simp) rfl).2 45 rfl
          have ocn : ∀ v, ρ (.const v) = v := fun v => hout (.const v) rfl
          have ofn : ∀ f, ρ (.func f) = .func (.func f) #[] #[] := fun f => hout (.func f) rfl
          clear hdep hout
          refine .inl ⟨?_, ?_⟩
          · show (y 1 == some true) = true
            rw [yg]; rfl
          show Gives _ _ _ (.slice p pn cap) _
          refine Gives.val ?_
          go_simp
        rcases i with _ | i
        · obtain rfl := Option.some.inj ho
          have o3 : ρ (.tmp 3) = .pointer (some ⟨x0.heap.size, 0, none⟩) := hout (.tmp 3) rfl
          have yg : y 1 = some true := (hdep ⟨1, .guard⟩ (by simp) rfl).2 45 rfl
          have ocn : ∀ v, ρ (.const v) = v := fun v => hout (.const v) rfl
          have ofn : ∀ f, ρ (.func f) = .func (.func f) #[] #[] := fun f => hout (.func f) rfl
          clear hdep hout
          refine .inl ⟨?_, ?_⟩
          · show (y 1 == some true) = true
            rw [yg]; rfl
          show Gives _ _ _ (.pointer (some ⟨x0.heap.size, 4, none⟩)) _
          refine Gives.val ?_
          go_simp
        rcases i with _ | i
        · obtain rfl := Option.some.inj ho
          have e3 : ρ (.tmp 47) = .pointer (some ⟨x0.heap.size, 4, none⟩) := (hdep ⟨3, .data⟩ (by simp) rfl).1 47 rfl
          have yg : y 1 = some true := (hdep ⟨1, .guard⟩ (by simp) rfl).2 45 rfl
          have ocn : ∀ v, ρ (.const v) = v := fun v => hout (.const v) rfl
          have ofn : ∀ f, ρ (.func f) = .func (.func f) #[] #[] := fun f => hout (.func f) rfl
          clear hdep hout
          refine .inl ⟨?_, ?_⟩
          · show (y 1 == some true) = true
            rw [yg]; rfl
          have kb := K00.out.later hBx
          have c0 := kb.c 0 _ rfl
          have c3 := kb.c 3 _ rfl
          have c4 := kb.c 4 _ rfl
          have c5 := kb.c 5 _ rfl
          have c6 := kb.c 6 _ rfl
          have cl0 := kb.lt
          show Gives _ _ _ (.agg #[.int .i64 0, .int .i64 n5, .int .i64 n6]) _
          refine Gives.val ?_
          go_simp
        rcases i with _ | i
        · obtain rfl := Option.some.inj ho
          have e2 : ρ (.tmp 46) = .slice p pn cap := (hdep ⟨2, .data⟩ (by simp) rfl).1 46 rfl
          have e4 : ρ (.tmp 48) = .agg #[.int .i64 0, .int .i64 n5, .int .i64 n6] := (hdep ⟨4, .data⟩ (by simp) rfl).1 48 rfl
          have yg : y 1 = some true := (hdep ⟨1, .guard⟩ (by simp) rfl).2 45 rfl
          have ocn : ∀ v, ρ (.const v) = v := fun v => hout (.const v) rfl
          have ofn : ∀ f, ρ (.func f) = .func (.func f) #[] #[] := fun f => hout (.func f) rfl
          clear hdep hout
          refine .inl ⟨?_, ?_⟩
          · show (y 1 == some true) = true
            rw [yg]; rfl
          show Gives _ _ _ (.bool false) _
          refine Gives.call (HSO.out x (HAl.out.trans (hBx.mono HAl.out.size))) ?_
          go_simp
        rcases i with _ | i
        · obtain rfl := Option.some.inj ho
          have e1 : ρ (.tmp 45) = .bool true := (hdep ⟨1, .data⟩ (by simp) rfl).1 45 rfl
          have e5 : ρ (.tmp 49) = .bool false := (hdep ⟨5, .data⟩ (by simp) rfl).1 49 rfl
          have ocn : ∀ v, ρ (.const v) = v := fun v => hout (.const v) rfl
          have ofn : ∀ f, ρ (.func f) = .func (.func f) #[] #[] := fun f => hout (.func f) rfl
          clear hdep hout
          refine .inl ⟨?_, ?_⟩
          · rfl
          show Gives _ _ _ (.bool false) _
          refine Gives.val ?_
          go_simp
        rcases i with _ | i
        · obtain rfl := Option.some.inj ho
          have e6 : ρ (.tmp 50) = .bool false := (hdep ⟨6, .data⟩ (by simp) rfl).1 50 rfl
          have ocn : ∀ v, ρ (.const v) = v := fun v => hout (.const v) rfl
          have ofn : ∀ f, ρ (.func f) = .func (.func f) #[] #[] := fun f => hout (.func f) rfl
          clear hdep hout
          refine .inl ⟨?_, ?_⟩
          · rfl
          show Gives _ _ _ (.bool false) _
          refine Gives.val ?_
          go_simp
        rcases i with _ | i
        · obtain rfl := Option.some.inj ho
          have o3 : ρ (.tmp 3) = .pointer (some ⟨x0.heap.size, 0, none⟩) := hout (.tmp 3) rfl
          have yg : y 7 = some false := (hdep ⟨7, .guard⟩ (by simp) rfl).2 51 rfl
          have ocn : ∀ v, ρ (.const v) = v := fun v => hout (.const v) rfl
          have ofn : ∀ f, ρ (.func f) = .func (.func f) #[] #[] := fun f => hout (.func f) rfl
          clear hdep hout
          refine .inr ⟨?_, rfl⟩
          show (y 7 == some true) = false
          rw [yg]; rfl
        rcases i with _ | i
        · obtain rfl := Option.some.inj ho
          have e8 : ρ (.tmp 52) = undef := (hdep ⟨8, .data⟩ (by simp) rfl).1 52 rfl
          have yg : y 7 = some false := (hdep ⟨7, .guard⟩ (by simp) rfl).2 51 rfl
          have ocn : ∀ v, ρ (.const v) = v := fun v => hout (.const v) rfl
          have ofn : ∀ f, ρ (.func f) = .func (.func f) #[] #[] := fun f => hout (.func f) rfl
          clear hdep hout
          refine .inr ⟨?_, rfl⟩
          show (y 7 == some true) = false
          rw [yg]; rfl
        rcases i with _ | i
        · obtain rfl := Option.some.inj ho
          have o3 : ρ (.tmp 3) = .pointer (some ⟨x0.heap.size, 0, none⟩) := hout (.tmp 3) rfl
          have yg : y 7 = some false := (hdep ⟨7, .guard⟩ (by simp) rfl).2 51 rfl
          have ocn : ∀ v, ρ (.const v) = v := fun v => hout (.const v) rfl
          have ofn : ∀ f, ρ (.func f) = .func (.func f) #[] #[] := fun f => hout (.func f) rfl
          clear hdep hout
          refine .inr ⟨?_, rfl⟩
          show (y 7 == some true) = false
          rw [yg]; rfl
        rcases i with _ | i
        · obtain rfl := Option.some.inj ho
          have e9 : ρ (.tmp 53) = undef := (hdep ⟨9, .data⟩ (by simp) rfl).1 53 rfl
          have e10 : ρ (.tmp 54) = undef := (hdep ⟨10, .data⟩ (by simp) rfl).1 54 rfl
          have yg : y 7 = some false := (hdep ⟨7, .guard⟩ (by simp) rfl).2 51 rfl
          have ocn : ∀ v, ρ (.const v) = v := fun v => hout (.const v) rfl
          have ofn : ∀ f, ρ (.func f) = .func (.func f) #[] #[] := fun f => hout (.func f) rfl
          clear hdep hout
          refine .inr ⟨?_, rfl⟩
          show (y 7 == some true) = false
          rw [yg]; rfl
        rcases i with _ | i
        · obtain rfl := Option.some.inj ho
          have e7 : ρ (.tmp 51) = .bool false := (hdep ⟨7, .data⟩ (by simp) rfl).1 51 rfl
          have e11 : ρ (.tmp 55) = undef := (hdep ⟨11, .data⟩ (by simp) rfl).1 55 rfl
          have ocn : ∀ v, ρ (.const v) = v := fun v => hout (.const v) rfl
          have ofn : ∀ f, ρ (.func f) = .func (.func f) #[] #[] := fun f => hout (.func f) rfl
          clear hdep hout
          refine .inl ⟨?_, ?_⟩
          · rfl
          show Gives _ _ _ (.bool false) _
          refine Gives.val ?_
          go_simp
        rcases i with _ | i
        · obtain rfl := Option.some.inj ho
          have e12 : ρ (.tmp 56) = .bool false := (hdep ⟨12, .data⟩ (by simp) rfl).1 56 rfl
          have ocn : ∀ v, ρ (.const v) = v := fun v => hout (.const v) rfl
          have ofn : ∀ f, ρ (.func f) = .func (.func f) #[] #[] := fun f => hout (.func f) rfl
          clear hdep hout
          refine .inl ⟨?_, ?_⟩
          · rfl
          show Gives _ _ _ (.bool false) _
          refine Gives.val ?_
          go_simp
        cases ho
      case fin =>
        intro x hBx
        have hBf := HAl.out.trans (hBx.mono HAl.out.size)
        go_wp2_with fail
        go_ret
        exact ⟨retBool (by have hfl := HFN.out.1; first | (simp [endF, noSite, HFN.out.1, hs, hg, hso]; done) | (simp [endF, noSite, HFN.out.1, hs, hg, hso]; intros; omega) | (simp_all [endF, noSite]; done) | (simp_all [endF, noSite] <;> omega)), hBf⟩
    · skip
      have HSO : Hid (∀ z : World, Below x0.heap.size x0 z → Calls Try.prog 111 #[.slice p pn cap, .agg #[.int .i64 0, .int .i64 n5, .int .i64 n6]] z fun e y => e = .returned (.bool true) ∧ Below z.heap.size z y) := fun z hz => by
        have := siteOk_any z B (.slice p pn cap) P (H.out.later hz) HOK.out (0, n5, n6)
        rw [hso] at this; exact this
      obtain ⟨g, o, hp, hgx, hfr⟩ := FrsAt.frame (p := ps) (cap := cs) (F := F) (j := F.length - 1) (by have := HS.out; rw [← HFN.out.1] at this; exact this) (by rw [HFN.out.1]; omega)
      subst hp
      have HT : Hid ((F.getD (F.length - 1) fr0) = topF F) := rfl
      rw [HT.out] at hfr
      rw [HFN.out.1] at hfr
      have t0 := hfr.c0
      have t2 := hfr.c2
      have HTP : Hid (∀ z : World, Below X.heap.size X z → Calls Try.prog 113 #[.pointer (some ⟨x0.heap.size, 0, none⟩)] z fun e y => e = .returned (.pointer (some ⟨g, o + (fn - 1) * 6, none⟩)) ∧ Below z.heap.size z y) := fun z hz => by
        have kb := K00.out.later hz
        exact top_any z x0.heap.size g o fn cs (kb.c 0 _ rfl) hg (by have := HFN.out.1; omega) kb.lt (Nat.lt_of_lt_of_le hgx (HAl.out.trans (hz.mono HAl.out.size)).size)
      have HIS : Hid (∀ z : World, Below X.heap.size X z → Calls Try.prog 112 #[.agg #[.int .i64 0, .int .i64 n5, .int .i64 n6], .pointer (some ⟨g, o + (fn - 1) * 6, none⟩)] z fun e y => e = .returned (.bool (decide (0 = (topF F).p) && decide (n5 = (topF F).t))) ∧ Below z.heap.size z y) := fun z hz => by
        have hbz := HAl.out.trans (hz.mono HAl.out.size)
        exact isOf_any z g (o + (fn - 1) * 6) (topF F).p (topF F).t (0, n5, n6) ((hbz.cell (p := ⟨g, _, none⟩) hgx).trans t0) ((hbz.cell (p := ⟨g, _, none⟩) hgx).trans t2) (Nat.lt_of_lt_of_le hgx hbz.size)
      refine wp_region_vals (by kernel_rfl) (by kernel_rfl) (by kernel_rfl) (by kernel_rfl) (fun j => [.bool true, .bool true, .slice p pn cap, .pointer (some ⟨x0.heap.size, 4, none⟩), .agg #[.int .i64 0, .int .i64 n5, .int .i64 n6], .bool true, .bool true, .bool true, .pointer (some ⟨x0.heap.size, 4, none⟩), .agg #[.int .i64 0, .int .i64 n5, .int .i64 n6], .pointer (some ⟨g, o + (fn - 1) * 6, none⟩), .bool (decide (0 = (topF F).p) && decide (n5 = (topF F).t)), .bool (decide (0 = (topF F).p) && decide (n5 = (topF F).t)), .bool (decide (0 = (topF F).p) && decide (n5 = (topF F).t))].getD j undef) X (Below.drew (Below.refl _ _)) ?step ⟨#[.slice p pn cap, .agg #[.slice (some ⟨g, o, none⟩) fn cs, .int .i64 n1, .int .i64 2, .int .i64 0, .int .i64 0, .int .i64 n5, .int .i64 n6], undef, .pointer (some ⟨x0.heap.size, 0, none⟩), .bool (decide (0 = (topF F).p) && decide (n5 = (topF F).t)), .bool true, .bool false, .pointer (some ⟨x0.heap.size, 0, none⟩), .slice (some ⟨g, o, none⟩) fn cs, .int .i64 ↑fn, .bool true, .bool true, .pointer (some ⟨x0.heap.size, 3, none⟩), .int .i64 0, .bool true, .bool true, .pointer (some ⟨x0.heap.size, 4, none⟩), .agg #[.int .i64 0, .int .i64 n5, .int .i64 n6], .agg #[.int .i64 0, .int .i64 0, .int .i64 0], .bool false, .pointer (some ⟨x0.heap.size, 2, none⟩), .int .i64 2, .bool false, .bool false, undef, undef, undef, undef, .bool false, .bool false, undef, undef, undef, undef, undef, undef, undef, undef, undef, undef, undef, undef, .bool true, .bool true, .bool true, .bool true, .slice p pn cap, .pointer (some ⟨x0.heap.size, 4, none⟩), .agg #[.int .i64 0, .int .i64 n5, .int .i64 n6], .bool true, .bool true, .bool true, .pointer (some ⟨x0.heap.size, 4, none⟩), .agg #[.int .i64 0, .int .i64 n5, .int .i64 n6], .pointer (some ⟨g, o + (fn - 1) * 6, none⟩), .bool (decide (0 = (topF F).p) && decide (n5 = (topF F).t)), .bool (decide (0 = (topF F).p) && decide (n5 = (topF F).t)), undef, undef, undef, undef, undef, undef, undef, undef, undef, undef, undef, undef], []⟩ (by kernel_rfl) ?fin
      case step =>
        intro i o ho ρ y x hBx hdep hout
        rcases i with _ | i
        · obtain rfl := Option.some.inj ho
          have o5 : ρ (.tmp 5) = .bool true := hout (.tmp 5) rfl
          have ocn : ∀ v, ρ (.const v) = v := fun v => hout (.const v) rfl
          have ofn : ∀ f, ρ (.func f) = .func (.func f) #[] #[] := fun f => hout (.func f) rfl
          clear hdep hout
          refine .inl ⟨?_, ?_⟩
          · rfl
          show Gives _ _ _ (.bool true) _
          refine Gives.val ?_
          go_simp
        rcases i with _ | i
        · obtain rfl := Option.some.inj ho
          have e0 : ρ (.tmp 44) = .bool true := (hdep ⟨0, .data⟩ (by simp) rfl).1 44 rfl
          have ocn : ∀ v, ρ (.const v) = v := fun v => hout (.const v) rfl
          have ofn : ∀ f, ρ (.func f) = .func (.func f) #[] #[] := fun f => hout (.func f) rfl
          clear hdep hout
          refine .inl ⟨?_, ?_⟩
          · rfl
          show Gives _ _ _ (.bool true) _
          refine Gives.val ?_
          go_simp
        rcases i with _ | i
        · obtain rfl := Option.some.inj ho
          have o0 : ρ (.tmp 0) = .slice p pn cap := hout (.tmp 0) rfl
          have yg : y 1 = some true := (hdep ⟨1, .guard⟩ (by simp) rfl).2 45 rfl
          have ocn : ∀ v, ρ (.const v) = v := fun v => hout (.const v) rfl
          have ofn : ∀ f, ρ (.func f) = .func (.func f) #[] #[] := fun f => hout (.func f) rfl
          clear hdep hout
          refine .inl ⟨?_, ?_⟩
          · show (y 1 == some true) = true
            rw [yg]; rfl
          show Gives _ _ _ (.slice p pn cap) _
          refine Gives.val ?_
          go_simp
        rcases i with _ | i
        · obtain rfl := Option.some.inj ho
          have o3 : ρ (.tmp 3) = .pointer (some ⟨x0.heap.size, 0, none⟩) := hout (.tmp 3) rfl
          have yg : y 1 = some true := (hdep ⟨1, .guard⟩ (by simp) rfl).2 45 rfl
          have ocn : ∀ v, ρ (.const v) = v := fun v => hout (.const v) rfl
          have ofn : ∀ f, ρ (.func f) = .func (.func f) #[] #[] := fun f => hout (.func f) rfl
          clear hdep hout
          refine .inl ⟨?_, ?_⟩
          · show (y 1 == some true) = true
            rw [yg]; rfl
          show Gives _ _ _ (.pointer (some ⟨x0.heap.size, 4, none⟩)) _
          refine Gives.val ?_
          go_simp
        rcases i with _ | i
        · obtain rfl := Option.some.inj ho
          have e3 : ρ (.tmp 47) = .pointer (some ⟨x0.heap.size, 4, none⟩) := (hdep ⟨3, .data⟩ (by simp) rfl).1 47 rfl
          have yg : y 1 = some true := (hdep ⟨1, .guard⟩ (by simp) rfl).2 45 rfl
          have ocn : ∀ v, ρ (.const v) = v := fun v => hout (.const v) rfl
          have ofn : ∀ f, ρ (.func f) = .func (.func f) #[] #[] := fun f => hout (.func f) rfl
          clear hdep hout
          refine .inl ⟨?_, ?_⟩
          · show (y 1 == some true) = true
            rw [yg]; rfl
          have kb := K00.out.later hBx
          have c0 := kb.c 0 _ rfl
          have c3 := kb.c 3 _ rfl
          have c4 := kb.c 4 _ rfl
          have c5 := kb.c 5 _ rfl
          have c6 := kb.c 6 _ rfl
          have cl0 := kb.lt
          show Gives _ _ _ (.agg #[.int .i64 0, .int .i64 n5, .int .i64 n6]) _
          refine Gives.val ?_
          go_simp
        rcases i with _ | i
        · obtain rfl := Option.some.inj ho
          have e2 : ρ (.tmp 46) = .slice p pn cap := (hdep ⟨2, .data⟩ (by simp) rfl).1 46 rfl
          have e4 : ρ (.tmp 48) = .agg #[.int .i64 0, .int .i64 n5, .int .i64 n6] := (hdep ⟨4, .data⟩ (by simp) rfl).1 48 rfl
          have yg : y 1 = some true := (hdep ⟨1, .guard⟩ (by simp) rfl).2 45 rfl
          have ocn : ∀ v, ρ (.const v) = v := fun v => hout (.const v) rfl
          have ofn : ∀ f, ρ (.func f) = .func (.func f) #[] #[] := fun f => hout (.func f) rfl
          clear hdep hout
          refine .inl ⟨?_, ?_⟩
          · show (y 1 == some true) = true
            rw [yg]; rfl
          show Gives _ _ _ (.bool true) _
          refine Gives.call (HSO.out x (HAl.out.trans (hBx.mono HAl.out.size))) ?_
          go_simp
        rcases i with _ | i
        · obtain rfl := Option.some.inj ho
          have e1 : ρ (.tmp 45) = .bool true := (hdep ⟨1, .data⟩ (by simp) rfl).1 45 rfl
          have e5 : ρ (.tmp 49) = .bool true := (hdep ⟨5, .data⟩ (by simp) rfl).1 49 rfl
          have ocn : ∀ v, ρ (.const v) = v := fun v => hout (.const v) rfl
          have ofn : ∀ f, ρ (.func f) = .func (.func f) #[] #[] := fun f => hout (.func f) rfl
          clear hdep hout
          refine .inl ⟨?_, ?_⟩
          · rfl
          show Gives _ _ _ (.bool true) _
          refine Gives.val ?_
          go_simp
        rcases i with _ | i
        · obtain rfl := Option.some.inj ho
          have e6 : ρ (.tmp 50) = .bool true := (hdep ⟨6, .data⟩ (by simp) rfl).1 50 rfl
          have ocn : ∀ v, ρ (.const v) = v := fun v => hout (.const v) rfl
          have ofn : ∀ f, ρ (.func f) = .func (.func f) #[] #[] := fun f => hout (.func f) rfl
          clear hdep hout
          refine .inl ⟨?_, ?_⟩
          · rfl
          show Gives _ _ _ (.bool true) _
          refine Gives.val ?_
          go_simp
        rcases i with _ | i
        · obtain rfl := Option.some.inj ho
          have o3 : ρ (.tmp 3) = .pointer (some ⟨x0.heap.size, 0, none⟩) := hout (.tmp 3) rfl
          have yg : y 7 = some true := (hdep ⟨7, .guard⟩ (by simp) rfl).2 51 rfl
          have ocn : ∀ v, ρ (.const v) = v := fun v => hout (.const v) rfl
          have ofn : ∀ f, ρ (.func f) = .func (.func f) #[] #[] := fun f => hout (.func f) rfl
          clear hdep hout
          refine .inl ⟨?_, ?_⟩
          · show (y 7 == some true) = true
            rw [yg]; rfl
          show Gives _ _ _ (.pointer (some ⟨x0.heap.size, 4, none⟩)) _
          refine Gives.val ?_
          go_simp
        rcases i with _ | i
        · obtain rfl := Option.some.inj ho
          have e8 : ρ (.tmp 52) = .pointer (some ⟨x0.heap.size, 4, none⟩) := (hdep ⟨8, .data⟩ (by simp) rfl).1 52 rfl
          have yg : y 7 = some true := (hdep ⟨7, .guard⟩ (by simp) rfl).2 51 rfl
          have ocn : ∀ v, ρ (.const v) = v := fun v => hout (.const v) rfl
          have ofn : ∀ f, ρ (.func f) = .func (.func f) #[] #[] := fun f => hout (.func f) rfl
          clear hdep hout
          refine .inl ⟨?_, ?_⟩
          · show (y 7 == some true) = true
            rw [yg]; rfl
          have kb := K00.out.later hBx
          have c0 := kb.c 0 _ rfl
          have c3 := kb.c 3 _ rfl
          have c4 := kb.c 4 _ rfl
          have c5 := kb.c 5 _ rfl
          have c6 := kb.c 6 _ rfl
          have cl0 := kb.lt
          show Gives _ _ _ (.agg #[.int .i64 0, .int .i64 n5, .int .i64 n6]) _
          refine Gives.val ?_
          go_simp
        rcases i with _ | i
        · obtain rfl := Option.some.inj ho
          have o3 : ρ (.tmp 3) = .pointer (some ⟨x0.heap.size, 0, none⟩) := hout (.tmp 3) rfl
          have yg : y 7 = some true := (hdep ⟨7, .guard⟩ (by simp) rfl).2 51 rfl
          have ocn : ∀ v, ρ (.const v) = v := fun v => hout (.const v) rfl
          have ofn : ∀ f, ρ (.func f) = .func (.func f) #[] #[] := fun f => hout (.func f) rfl
          clear hdep hout
          refine .inl ⟨?_, ?_⟩
          · show (y 7 == some true) = true
            rw [yg]; rfl
          show Gives _ _ _ (.pointer (some ⟨g, o + (fn - 1) * 6, none⟩)) _
          refine Gives.call (HTP.out x hBx) ?_
          go_simp
        rcases i with _ | i
        · obtain rfl := Option.some.inj ho
          have e9 : ρ (.tmp 53) = .agg #[.int .i64 0, .int .i64 n5, .int .i64 n6] := (hdep ⟨9, .data⟩ (by simp) rfl).1 53 rfl
          have e10 : ρ (.tmp 54) = .pointer (some ⟨g, o + (fn - 1) * 6, none⟩) := (hdep ⟨10, .data⟩ (by simp) rfl).1 54 rfl
          have yg : y 7 = some true := (hdep ⟨7, .guard⟩ (by simp) rfl).2 51 rfl
          have ocn : ∀ v, ρ (.const v) = v := fun v => hout (.const v) rfl
          have ofn : ∀ f, ρ (.func f) = .func (.func f) #[] #[] := fun f => hout (.func f) rfl
          clear hdep hout
          refine .inl ⟨?_, ?_⟩
          · show (y 7 == some true) = true
            rw [yg]; rfl
          show Gives _ _ _ (.bool (decide (0 = (topF F).p) && decide (n5 = (topF F).t))) _
          refine Gives.call (HIS.out x hBx) ?_
          go_simp
        rcases i with _ | i
        · obtain rfl := Option.some.inj ho
          have e7 : ρ (.tmp 51) = .bool true := (hdep ⟨7, .data⟩ (by simp) rfl).1 51 rfl
          have e11 : ρ (.tmp 55) = .bool (decide (0 = (topF F).p) && decide (n5 = (topF F).t)) := (hdep ⟨11, .data⟩ (by simp) rfl).1 55 rfl
          have ocn : ∀ v, ρ (.const v) = v := fun v => hout (.const v) rfl
          have ofn : ∀ f, ρ (.func f) = .func (.func f) #[] #[] := fun f => hout (.func f) rfl
          clear hdep hout
          refine .inl ⟨?_, ?_⟩
          · rfl
          show Gives _ _ _ (.bool (decide (0 = (topF F).p) && decide (n5 = (topF F).t))) _
          refine Gives.val ?_
          go_simp
        rcases i with _ | i
        · obtain rfl := Option.some.inj ho
          have e12 : ρ (.tmp 56) = .bool (decide (0 = (topF F).p) && decide (n5 = (topF F).t)) := (hdep ⟨12, .data⟩ (by simp) rfl).1 56 rfl
          have ocn : ∀ v, ρ (.const v) = v := fun v => hout (.const v) rfl
          have ofn : ∀ f, ρ (.func f) = .func (.func f) #[] #[] := fun f => hout (.func f) rfl
          clear hdep hout
          refine .inl ⟨?_, ?_⟩
          · rfl
          show Gives _ _ _ (.bool (decide (0 = (topF F).p) && decide (n5 = (topF F).t))) _
          refine Gives.val ?_
          go_simp
        cases ho
      case fin =>
        intro x hBx
        have hBf := HAl.out.trans (hBx.mono HAl.out.size)
        go_wp2_with fail
        go_ret
        exact ⟨retBool (by have hfl := HFN.out.1; first | (simp [endF, noSite, HFN.out.1, hs, hg, hso]; done) | (simp [endF, noSite, HFN.out.1, hs, hg, hso]; intros; omega) | (simp_all [endF, noSite]; done) | (simp_all [endF, noSite] <;> omega)), hBf⟩
  · by_cases e1 : n2 = 1
    · subst e1
      go_enter Try.func77, Try.ntmps77
      go_wp2_with fail
      go_ret
      exact ⟨retBool (by have hfl := HFN.out.1; first | (simp [endF, noSite, HFN.out.1, hs, hg]; done) | (simp [endF, noSite, HFN.out.1, hs, hg]; intros; omega) | (simp_all [endF, noSite]; done) | (simp_all [endF, noSite] <;> omega)), by first | exact (Below.refl _ _).alloc (Nat.le_refl _) _ | go_grown⟩
    · go_enter Try.func77, Try.ntmps77
      go_wp2_with fail
      all_goals
        go_ret
        exact ⟨retBool (by have hfl := HFN.out.1; first | (simp [endF, noSite, HFN.out.1, hs, hg, e1, e2, *]; done) | (simp [endF, noSite, HFN.out.1, hs, hg, e1, e2, *]; intros; omega) | (simp_all [endF, noSite]; done) | (simp_all [endF, noSite] <;> omega)), by first | exact (Below.refl _ _).alloc (Nat.le_refl _) _ | go_grown⟩

set_option maxRecDepth 100000 in
set_option maxHeartbeats 8000000 in
theorem endOk_S2G0 (x0 : World) (B : Nat) (v : Value) (P : List (List I4)) (h : ProgAt x0 B v P) (hok : progOkF P = true) (s : Value) (F : List Fr) (hF : FrsAt x0 s F) (hl5 : F.length ≤ 5) (n1 n2 n3 n4 n5 n6 : Int) (hs0 : n4 = 0) (hs1 : n5 = 0) (hs : ¬ n6 = 0) (hg : F.length = 0) :
    Calls Try.prog 77 #[v, aggRun s (n1, n2, n3, n4, n5, n6)] x0 fun e y => e = .returned (.bool (endF P F n2 n3 (n4, n5, n6))) ∧ Below x0.heap.size x0 y := by
  obtain ⟨p, cap, rfl, _⟩ := h.shape
  obtain ⟨ps, cs, rfl, _⟩ := hF.shape
  unfold aggRun
  dsimp only
  have H : Hid (ProgAt x0 B (.slice p P.length cap) P) := h
  have HOK : Hid (progOkF P = true) := hok
  have HS : Hid (FrsAt x0 (.slice ps F.length cs) F) := hF
  have hl := progOkF_len hok
  have hn4 : (P.length : Int) ≤ 4 := by omega
  have hf5 : (F.length : Int) ≤ 5 := by omega
  clear h hok hF hl
  subst hs0
  subst hs1
  have hsb : (n6 == 0) = false := by simpa using hs
  generalize hfn : F.length = fn at *
  generalize hpn : P.length = pn at *
  have HFN : Hid (F.length = fn ∧ P.length = pn) := ⟨hfn, hpn⟩
  clear hfn hpn
  subst hg
  by_cases e2 : n2 = 2
  · subst e2
    have HAl : Hid (Below x0.heap.size x0 (x0.alloc (.cells #[.slice ps 0 cs, .int .i64 n1, .int .i64 2, .int .i64 n3, .int .i64 0, .int .i64 0, .int .i64 n6] 56))) := (Below.refl _ _).alloc (Nat.le_refl _) _
    have K00 : Hid (BxN (x0.alloc (.cells #[.slice ps 0 cs, .int .i64 n1, .int .i64 2, .int .i64 n3, .int .i64 0, .int .i64 0, .int .i64 n6] 56)) x0.heap.size [.slice ps 0 cs, .int .i64 n1, .int .i64 2, .int .i64 n3, .int .i64 0, .int .i64 0, .int .i64 n6]) := BxN.new x0 [_, _, _, _, _, _, _] _
    go_enter Try.func77, Try.ntmps77
    go_wp2_with fail
    generalize x0.alloc (.cells #[.slice ps 0 cs, .int .i64 n1, .int .i64 2, .int .i64 n3, .int .i64 0, .int .i64 0, .int .i64 n6] 56) = X at HAl K00 ⊢
    refine wp_region_vals (by kernel_rfl) (by kernel_rfl) (by kernel_rfl) (by kernel_rfl) (fun j => [.bool false, .bool false, undef, undef, undef, undef, .bool false, .bool false, undef, undef, undef, undef, .bool false, .bool false].getD j undef) X (Below.drew (Below.refl _ _)) ?step ⟨#[.slice p pn cap, .agg #[.slice ps 0 cs, .int .i64 n1, .int .i64 2, .int .i64 n3, .int .i64 0, .int .i64 0, .int .i64 n6], undef, .pointer (some ⟨x0.heap.size, 0, none⟩), .bool false, .bool false, .bool false, .pointer (some ⟨x0.heap.size, 0, none⟩), .slice ps 0 cs, .int .i64 0, .bool false, .bool false, undef, undef, undef, .bool false, .pointer (some ⟨x0.heap.size, 4, none⟩), .agg #[.int .i64 0, .int .i64 0, .int .i64 n6], .agg #[.int .i64 0, .int .i64 0, .int .i64 0], .bool false, .pointer (some ⟨x0.heap.size, 2, none⟩), .int .i64 2, .bool false, .bool false, undef, undef, undef, undef, .bool false, .bool false, undef, undef, undef, undef, undef, undef, undef, undef, undef, undef, undef, undef, .bool true, .bool true, .bool false, .bool false, undef, undef, undef, undef, .bool false, .bool false, undef, undef, undef, undef, .bool false, undef, undef, undef, undef, undef, undef, undef, undef, undef, undef, undef, undef], []⟩ (by kernel_rfl) ?fin
    case step =>
      intro i o ho ρ y x hBx hdep hout
      rcases i with _ | i
      · obtain rfl := Option.some.inj ho
        have o5 : ρ (.tmp 5) = .bool false := hout (.tmp 5) rfl
        have ocn : ∀ v, ρ (.const v) = v := fun v => hout (.const v) rfl
        have ofn : ∀ f, ρ (.func f) = .func (.func f) #[] #[] := fun f => hout (.func f) rfl
        clear hdep hout
        refine .inl ⟨?_, ?_⟩
        · rfl
        show Gives _ _ _ (.bool false) _
        refine Gives.val ?_
        go_simp
      rcases i with _ | i
      · obtain rfl := Option.some.inj ho
        have e0 : ρ (.tmp 44) = .bool false := (hdep ⟨0, .data⟩ (by simp) rfl).1 44 rfl
        have ocn : ∀ v, ρ (.const v) = v := fun v => hout (.const v) rfl
        have ofn : ∀ f, ρ (.func f) = .func (.func f) #[] #[] := fun f => hout (.func f) rfl
        clear hdep hout
        refine .inl ⟨?_, ?_⟩
        · rfl
        show Gives _ _ _ (.bool false) _
        refine Gives.val ?_
        go_simp
      rcases i with _ | i
      · obtain rfl := Option.some.inj ho
        have o0 : ρ (.tmp 0) = .slice p pn cap := hout (.tmp 0) rfl
        have yg : y 1 = some false := (hdep ⟨1, .guard⟩ (by simp) rfl).2 45 rfl
        have ocn : ∀ v, ρ (.const v) = v := fun v => hout (.const v) rfl
        have ofn : ∀ f, ρ (.func f) = .func (.func f) #[] #[] := fun f => hout (.func f) rfl
        clear hdep hout
        refine .inr ⟨?_, rfl⟩
        show (y 1 == some true) = false
        rw [yg]; rfl
      rcases i with _ | i
      · obtain rfl := Option.some.inj ho
        have o3 : ρ (.tmp 3) = .pointer (some ⟨x0.heap.size, 0, none⟩) := hout (.tmp 3) rfl
        have yg : y 1 = some false := (hdep ⟨1, .guard⟩ (by simp) rfl).2 45 rfl
        have ocn : ∀ v, ρ (.const v) = v := fun v => hout (.const v) rfl
        have ofn : ∀ f, ρ (.func f) = .func (.func f) #[] #[] := fun f => hout (.func f) rfl
        clear hdep hout
        refine .inr ⟨?_, rfl⟩
        show (y 1 == some true) = false
        rw [yg]; rfl
      rcases i with _ | i
      · obtain rfl := Option.some.inj ho
        have e3 : ρ (.tmp 47) = undef := (hdep ⟨3, .data⟩ (by simp) rfl).1 47 rfl
        have yg : y 1 = some false := (hdep ⟨1, .guard⟩ (by simp) rfl).2 45 rfl
        have ocn : ∀ v, ρ (.const v) = v := fun v => hout (.const v) rfl
        have ofn : ∀ f, ρ (.func f) = .func (.func f) #[] #[] := fun f => hout (.func f) rfl
        clear hdep hout
        refine .inr ⟨?_, rfl⟩
        show (y 1 == some true) = false
        rw [yg]; rfl
      rcases i with _ | i
      · obtain rfl := Option.some.inj ho
        have e2 : ρ (.tmp 46) = undef := (hdep ⟨2, .data⟩ (by simp) rfl).1 46 rfl
        have e4 : ρ (.tmp 48) = undef := (hdep ⟨4, .data⟩ (by simp) rfl).1 48 rfl
        have yg : y 1 = some false := (hdep ⟨1, .guard⟩ (by simp) rfl).2 45 rfl
        have ocn : ∀ v, ρ (.const v) = v := fun v => hout (.const v) rfl
        have ofn : ∀ f, ρ (.func f) = .func (.func f) #[] #[] := fun f => hout (.func f) rfl
        clear hdep hout
        refine .inr ⟨?_, rfl⟩
        show (y 1 == some true) = false
        rw [yg]; rfl
      rcases i with _ | i
      · obtain rfl := Option.some.inj ho
        have e1 : ρ (.tmp 45) = .bool false := (hdep ⟨1, .data⟩ (by simp) rfl).1 45 rfl
        have e5 : ρ (.tmp 49) = undef := (hdep ⟨5, .data⟩ (by simp) rfl).1 49 rfl
        have ocn : ∀ v, ρ (.const v) = v := fun v => hout (.const v) rfl
        have ofn : ∀ f, ρ (.func f) = .func (.func f) #[] #[] := fun f => hout (.func f) rfl
        clear hdep hout
        refine .inl ⟨?_, ?_⟩
        · rfl
        show Gives _ _ _ (.bool false) _
        refine Gives.val ?_
        go_simp
      rcases i with _ | i
      · obtain rfl := Option.some.inj ho
        have e6 : ρ (.tmp 50) = .bool false := (hdep ⟨6, .data⟩ (by simp) rfl).1 50 rfl
        have ocn : ∀ v, ρ (.const v) = v := fun v => hout (.const v) rfl
        have ofn : ∀ f, ρ (.func f) = .func (.func f) #[] #[] := fun f => hout (.func f) rfl
        clear hdep hout
        refine .inl ⟨?_, ?_⟩
        · rfl
        show Gives _ _ _ (.bool false) _
        refine Gives.val ?_
        go_simp
      rcases i with _ | i
      · obtain rfl := Option.some.inj ho
        have o3 : ρ (.tmp 3) = .pointer (some ⟨x0.heap.size, 0, none⟩) := hout (.tmp 3) rfl
        have yg : y 7 = some false := (hdep ⟨7, .guard⟩ (by simp) rfl).2 51 rfl
        have ocn : ∀ v, ρ (.const v) = v := fun v => hout (.const v) rfl
        have ofn : ∀ f, ρ (.func f) = .func (.func f) #[] #[] := fun f => hout (.func f) rfl
        clear hdep hout
        refine .inr ⟨?_, rfl⟩
        show (y 7 == some true) = false
        rw [yg]; rfl
      rcases i with _ | i
      · obtain rfl := Option.some.inj ho
        have e8 : ρ (.tmp 52) = undef := (hdep ⟨8, .data⟩ (by simp) rfl).1 52 rfl
        have yg : y 7 = some false := (hdep ⟨7, .guard⟩ (by simp) rfl).2 51 rfl
        have ocn : ∀ v, ρ (.const v) = v := fun v => hout (.const v) rfl
        have ofn : ∀ f, ρ (.func f) = .func (.func f) #[] #[] := fun f => hout (.func f) rfl
        clear hdep hout
        refine .inr ⟨?_, rfl⟩
        show (y 7 == some true) = false
        rw [yg]; rfl
      rcases i with _ | i
      · obtain rfl := Option.some.inj ho
        have o3 : ρ (.tmp 3) = .pointer (some ⟨x0.heap.size, 0, none⟩) := hout (.tmp 3) rfl
        have yg : y 7 = some false := (hdep ⟨7, .guard⟩ (by simp) rfl).2 51 rfl
        have ocn : ∀ v, ρ (.const v) = v := fun v => hout (.const v) rfl
        have ofn : ∀ f, ρ (.func f) = .func (.func f) #[] #[] := fun f => hout (.func f) rfl
        clear hdep hout
        refine .inr ⟨?_, rfl⟩
        show (y 7 == some true) = false
        rw [yg]; rfl
      rcases i with _ | i
      · obtain rfl := Option.some.inj ho
        have e9 : ρ (.tmp 53) = undef := (hdep ⟨9, .data⟩ (by simp) rfl).1 53 rfl
        have e10 : ρ (.tmp 54) = undef := (hdep ⟨10, .data⟩ (by simp) rfl).1 54 rfl
        have yg : y 7 = some false := (hdep ⟨7, .guard⟩ (by simp) rfl).2 51 rfl
        have ocn : ∀ v, ρ (.const v) = v := fun v => hout (.const v) rfl
        have ofn : ∀ f, ρ (.func f) = .func (.func f) #[] #[] := fun f => hout (.func f) rfl
        clear hdep hout
        refine .inr ⟨?_, rfl⟩
        show (y 7 == some true) = false
        rw [yg]; rfl
      rcases i with _ | i
      · obtain rfl := Option.some.inj ho
        have e7 : ρ (.tmp 51) = .bool false := (hdep ⟨7, .data⟩ (by simp) rfl).1 51 rfl
        have e11 : ρ (.tmp 55) = undef := (hdep ⟨11, .data⟩ (by simp) rfl).1 55 rfl
        have ocn : ∀ v, ρ (.const v) = v := fun v => hout (.const v) rfl
        have ofn : ∀ f, ρ (.func f) = .func (.func f) #[] #[] := fun f => hout (.func f) rfl
        clear hdep hout
        refine .inl ⟨?_, ?_⟩
        · rfl
        show Gives _ _ _ (.bool false) _
        refine Gives.val ?_
        go_simp
      rcases i with _ | i
      · obtain rfl := Option.some.inj ho
        have e12 : ρ (.tmp 56) = .bool false := (hdep ⟨12, .data⟩ (by simp) rfl).1 56 rfl
        have ocn : ∀ v, ρ (.const v) = v := fun v => hout (.const v) rfl
        have ofn : ∀ f, ρ (.func f) = .func (.func f) #[] #[] := fun f => hout (.func f) rfl
        clear hdep hout
        refine .inl ⟨?_, ?_⟩
        · rfl
        show Gives _ _ _ (.bool false) _
        refine Gives.val ?_
        go_simp
      cases ho
    case fin =>
      intro x hBx
      have hBf := HAl.out.trans (hBx.mono HAl.out.size)
      go_wp2_with fail
      go_ret
      exact ⟨retBool (by have hfl := HFN.out.1; first | (simp [endF, noSite, HFN.out.1, hs]; done) | (simp [endF, noSite, HFN.out.1, hs]; intros; omega) | (simp_all [endF, noSite]; done) | (simp_all [endF, noSite] <;> omega)), hBf⟩
  · by_cases e1 : n2 = 1
    · subst e1
      go_enter Try.func77, Try.ntmps77
      go_wp2_with fail
      refine (isWord_e n3 _).mono ?_
      rintro e z ⟨rfl, rfl⟩
      cases hw : inI n3 (-16) 15
      all_goals
        go_wp2_with fail
        go_ret
        exact ⟨retBool (by have hfl := HFN.out.1; first | (simp [endF, noSite, HFN.out.1, hs, wdF, hw]; done) | (simp [endF, noSite, HFN.out.1, hs, wdF, hw]; intros; omega) | (simp_all [endF, noSite]; done) | (simp_all [endF, noSite] <;> omega)), by first | exact (Below.refl _ _).alloc (Nat.le_refl _) _ | go_grown⟩
    · go_enter Try.func77, Try.ntmps77
      go_wp2_with fail
      all_goals
        go_ret
        exact ⟨retBool (by have hfl := HFN.out.1; first | (simp [endF, noSite, HFN.out.1, hs, e1, e2, *]; done) | (simp [endF, noSite, HFN.out.1, hs, e1, e2, *]; intros; omega) | (simp_all [endF, noSite]; done) | (simp_all [endF, noSite] <;> omega)), by first | exact (Below.refl _ _).alloc (Nat.le_refl _) _ | go_grown⟩

set_option maxRecDepth 100000 in
set_option maxHeartbeats 8000000 in
theorem endOk_S2G1 (x0 : World) (B : Nat) (v : Value) (P : List (List I4)) (h : ProgAt x0 B v P) (hok : progOkF P = true) (s : Value) (F : List Fr) (hF : FrsAt x0 s F) (hl5 : F.length ≤ 5) (n1 n2 n3 n4 n5 n6 : Int) (hs0 : n4 = 0) (hs1 : n5 = 0) (hs : ¬ n6 = 0) (hg : 0 < F.length) (ho : ¬ n3 = 0) :
    Calls Try.prog 77 #[v, aggRun s (n1, n2, n3, n4, n5, n6)] x0 fun e y => e = .returned (.bool (endF P F n2 n3 (n4, n5, n6))) ∧ Below x0.heap.size x0 y := by
  obtain ⟨p, cap, rfl, _⟩ := h.shape
  obtain ⟨ps, cs, rfl, _⟩ := hF.shape
  unfold aggRun
  dsimp only
  have H : Hid (ProgAt x0 B (.slice p P.length cap) P) := h
  have HOK : Hid (progOkF P = true) := hok
  have HS : Hid (FrsAt x0 (.slice ps F.length cs) F) := hF
  have hl := progOkF_len hok
  have hn4 : (P.length : Int) ≤ 4 := by omega
  have hf5 : (F.length : Int) ≤ 5 := by omega
  clear h hok hF hl
  subst hs0
  subst hs1
  have hsb : (n6 == 0) = false := by simpa using hs
  have hob : (n3 == 0) = false := by simpa using ho
  generalize hfn : F.length = fn at *
  generalize hpn : P.length = pn at *
  have HFN : Hid (F.length = fn ∧ P.length = pn) := ⟨hfn, hpn⟩
  clear hfn hpn
  have hgi : (0 : Int) < (fn : Int) := by omega
  by_cases e2 : n2 = 2
  · subst e2
    have HAl : Hid (Below x0.heap.size x0 (x0.alloc (.cells #[.slice ps fn cs, .int .i64 n1, .int .i64 2, .int .i64 n3, .int .i64 0, .int .i64 0, .int .i64 n6] 56))) := (Below.refl _ _).alloc (Nat.le_refl _) _
    have K00 : Hid (BxN (x0.alloc (.cells #[.slice ps fn cs, .int .i64 n1, .int .i64 2, .int .i64 n3, .int .i64 0, .int .i64 0, .int .i64 n6] 56)) x0.heap.size [.slice ps fn cs, .int .i64 n1, .int .i64 2, .int .i64 n3, .int .i64 0, .int .i64 0, .int .i64 n6]) := BxN.new x0 [_, _, _, _, _, _, _] _
    go_enter Try.func77, Try.ntmps77
    go_wp2_with fail
    generalize x0.alloc (.cells #[.slice ps fn cs, .int .i64 n1, .int .i64 2, .int .i64 n3, .int .i64 0, .int .i64 0, .int .i64 n6] 56) = X at HAl K00 ⊢
    refine wp_region_vals (by kernel_rfl) (by kernel_rfl) (by kernel_rfl) (by kernel_rfl) (fun j => [.bool false, .bool false, undef, undef, undef, undef, .bool false, .bool false, undef, undef, undef, undef, .bool false, .bool false].getD j undef) X (Below.drew (Below.refl _ _)) ?step ⟨#[.slice p pn cap, .agg #[.slice ps fn cs, .int .i64 n1, .int .i64 2, .int .i64 n3, .int .i64 0, .int .i64 0, .int .i64 n6], undef, .pointer (some ⟨x0.heap.size, 0, none⟩), .bool false, .bool false, .bool false, .pointer (some ⟨x0.heap.size, 0, none⟩), .slice ps fn cs, .int .i64 ↑fn, .bool true, .bool true, .pointer (some ⟨x0.heap.size, 3, none⟩), .int .i64 n3, .bool false, .bool false, .pointer (some ⟨x0.heap.size, 4, none⟩), .agg #[.int .i64 0, .int .i64 0, .int .i64 n6], .agg #[.int .i64 0, .int .i64 0, .int .i64 0], .bool false, .pointer (some ⟨x0.heap.size, 2, none⟩), .int .i64 2, .bool false, .bool false, undef, undef, undef, undef, .bool false, .bool false, undef, undef, undef, undef, undef, undef, undef, undef, undef, undef, undef, undef, .bool true, .bool true, .bool false, .bool false, undef, undef, undef, undef, .bool false, .bool false, undef, undef, undef, undef, .bool false, undef, undef, undef, undef, undef, undef, undef, undef, undef, undef, undef, undef], []⟩ (by kernel_rfl) ?fin
    case step =>
      intro i o ho ρ y x hBx hdep hout
      rcases i with _ | i
      · obtain rfl := Option.some.inj ho
        have o5 : ρ (.tmp 5) = .bool false := hout (.tmp 5) rfl
        have ocn : ∀ v, ρ (.const v) = v := fun v => hout (.const v) rfl
        have ofn : ∀ f, ρ (.func f) = .func (.func f) #[] #[] := fun f => hout (.func f) rfl
        clear hdep hout
        refine .inl ⟨?_, ?_⟩
        · rfl
        show Gives _ _ _ (.bool false) _
        refine Gives.val ?_
        go_simp
      rcases i with _ | i
      · obtain rfl := Option.some.inj ho
        have e0 : ρ (.tmp 44) = .bool false := (hdep ⟨0, .data⟩ (by simp) rfl).1 44 rfl
        have ocn : ∀ v, ρ (.const v) = v := fun v => hout (.const v) rfl
        have ofn : ∀ f, ρ (.func f) = .func (.func f) #[] #[] := fun f => hout (.func f) rfl
        clear hdep hout
        refine .inl ⟨?_, ?_⟩
        · rfl
        show Gives _ _ _ (.bool false) _
        refine Gives.val ?_
        go_simp
      rcases i with _ | i
      · obtain rfl := Option.some.inj ho
        have o0 : ρ (.tmp 0) = .slice p pn cap := hout (.tmp 0) rfl
        have yg : y 1 = some false := (hdep ⟨1, .guard⟩ (by simp) rfl).2 45 rfl
        have ocn : ∀ v, ρ (.const v) = v := fun v => hout (.const v) rfl
        have ofn : ∀ f, ρ (.func f) = .func (.func f) #[] #[] := fun f => hout (.func f) rfl
        clear hdep hout
        refine .inr ⟨?_, rfl⟩
        show (y 1 == some true) = false
        rw [yg]; rfl
      rcases i with _ | i
      · obtain rfl := Option.some.inj ho
        have o3 : ρ (.tmp 3) = .pointer (some ⟨x0.heap.size, 0, none⟩) := hout (.tmp 3) rfl
        have yg : y 1 = some false := (hdep ⟨1, .guard⟩ (by simp) rfl).2 45 rfl
        have ocn : ∀ v, ρ (.const v) = v := fun v => hout (.const v) rfl
        have ofn : ∀ f, ρ (.func f) = .func (.func f) #[] #[] := fun f => hout (.func f) rfl
        clear hdep hout
        refine .inr ⟨?_, rfl⟩
        show (y 1 == some true) = false
        rw [yg]; rfl
      rcases i with _ | i
      · obtain rfl := Option.some.inj ho
        have e3 : ρ (.tmp 47) = undef := (hdep ⟨3, .data⟩ (by simp) rfl).1 47 rfl
        have yg : y 1 = some false := (hdep ⟨1, .guard⟩ (by simp) rfl).2 45 rfl
        have ocn : ∀ v, ρ (.const v) = v := fun v => hout (.const v) rfl
        have ofn : ∀ f, ρ (.func f) = .func (.func f) #[] #[] := fun f => hout (.func f) rfl
        clear hdep hout
        refine .inr ⟨?_, rfl⟩
        show (y 1 == some true) = false
        rw [yg]; rfl
      rcases i with _ | i
      · obtain rfl := Option.some.inj ho
        have e2 : ρ (.tmp 46) = undef := (hdep ⟨2, .data⟩ (by simp) rfl).1 46 rfl
        have e4 : ρ (.tmp 48) = undef := (hdep ⟨4, .data⟩ (by simp) rfl).1 48 rfl
        have yg : y 1 = some false := (hdep ⟨1, .guard⟩ (by simp) rfl).2 45 rfl
        have ocn : ∀ v, ρ (.const v) = v := fun v => hout (.const v) rfl
        have ofn : ∀ f, ρ (.func f) = .func (.func f) #[] #[] := fun f => hout (.func f) rfl
        clear hdep hout
        refine .inr ⟨?_, rfl⟩
        show (y 1 == some true) = false
        rw [yg]; rfl
      rcases i with _ | i
      · obtain rfl := Option.some.inj ho
        have e1 : ρ (.tmp 45) = .bool false := (hdep ⟨1, .data⟩ (by simp) rfl).1 45 rfl
        have e5 : ρ (.tmp 49) = undef := (hdep ⟨5, .data⟩ (by simp) rfl).1 49 rfl
        have ocn : ∀ v, ρ (.const v) = v := fun v => hout (.const v) rfl
        have ofn : ∀ f, ρ (.func f) = .func (.func f) #[] #[] := fun f => hout (.func f) rfl
        clear hdep hout
        refine .inl ⟨?_, ?_⟩
        · rfl
        show Gives _ _ _ (.bool false) _
        refine Gives.val ?_
        go_simp
      rcases i with _ | i
      · obtain rfl := Option.some.inj ho
        have e6 : ρ (.tmp 50) = .bool false := (hdep ⟨6, .data⟩ (by simp) rfl).1 50 rfl
        have ocn : ∀ v, ρ (.const v) = v := fun v => hout (.const v) rfl
        have ofn : ∀ f, ρ (.func f) = .func (.func f) #[] #[] := fun f => hout (.func f) rfl
        clear hdep hout
        refine .inl ⟨?_, ?_⟩
        · rfl
        show Gives _ _ _ (.bool false) _
        refine Gives.val ?_
        go_simp
      rcases i with _ | i
      · obtain rfl := Option.some.inj ho
        have o3 : ρ (.tmp 3) = .pointer (some ⟨x0.heap.size, 0, none⟩) := hout (.tmp 3) rfl
        have yg : y 7 = some false := (hdep ⟨7, .guard⟩ (by simp) rfl).2 51 rfl
        have ocn : ∀ v, ρ (.const v) = v := fun v => hout (.const v) rfl
        have ofn : ∀ f, ρ (.func f) = .func (.func f) #[] #[] := fun f => hout (.func f) rfl
        clear hdep hout
        refine .inr ⟨?_, rfl⟩
        show (y 7 == some true) = false
        rw [yg]; rfl
      rcases i with _ | i
      · obtain rfl := Option.some.inj ho
        have e8 : ρ (.tmp 52) = undef := (hdep ⟨8, .data⟩ (by simp) rfl).1 52 rfl
        have yg : y 7 = some false := (hdep ⟨7, .guard⟩ (by simp) rfl).2 51 rfl
        have ocn : ∀ v, ρ (.const v) = v := fun v => hout (.const v) rfl
        have ofn : ∀ f, ρ (.func f) = .func (.func f) #[] #[] := fun f => hout (.func f) rfl
        clear hdep hout
        refine .inr ⟨?_, rfl⟩
        show (y 7 == some true) = false
        rw [yg]; rfl
      rcases i with _ | i
      · obtain rfl := Option.some.inj ho
        have o3 : ρ (.tmp 3) = .pointer (some ⟨x0.heap.size, 0, none⟩) := hout (.tmp 3) rfl
        have yg : y 7 = some false := (hdep ⟨7, .guard⟩ (by simp) rfl).2 51 rfl
        have ocn : ∀ v, ρ (.const v) = v := fun v => hout (.const v) rfl
        have ofn : ∀ f, ρ (.func f) = .func (.func f) #[] #[] := fun f => hout (.func f) rfl
        clear hdep hout
        refine .inr ⟨?_, rfl⟩
        show (y 7 == some true) = false
        rw [yg]; rfl
      rcases i with _ | i
      · obtain rfl := Option.some.inj ho
        have e9 : ρ (.tmp 53) = undef := (hdep ⟨9, .data⟩ (by simp) rfl).1 53 rfl
        have e10 : ρ (.tmp 54) = undef := (hdep ⟨10, .data⟩ (by simp) rfl).1 54 rfl
        have yg : y 7 = some false := (hdep ⟨7, .guard⟩ (by simp) rfl).2 51 rfl
        have ocn : ∀ v, ρ (.const v) = v := fun v => hout (.const v) rfl
        have ofn : ∀ f, ρ (.func f) = .func (.func f) #[] #[] := fun f => hout (.func f) rfl
        clear hdep hout
        refine .inr ⟨?_, rfl⟩
        show (y 7 == some true) = false
        rw [yg]; rfl
      rcases i with _ | i
      · obtain rfl := Option.some.inj ho
        have e7 : ρ (.tmp 51) = .bool false := (hdep ⟨7, .data⟩ (by simp) rfl).1 51 rfl
        have e11 : ρ (.tmp 55) = undef := (hdep ⟨11, .data⟩ (by simp) rfl).1 55 rfl
        have ocn : ∀ v, ρ (.const v) = v := fun v => hout (.const v) rfl
        have ofn : ∀ f, ρ (.func f) = .func (.func f) #[] #[] := fun f => hout (.func f) rfl
        clear hdep hout
        refine .inl ⟨?_, ?_⟩
        · rfl
        show Gives _ _ _ (.bool false) _
        refine Gives.val ?_
        go_simp
      rcases i with _ | i
      · obtain rfl := Option.some.inj ho
        have e12 : ρ (.tmp 56) = .bool false := (hdep ⟨12, .data⟩ (by simp) rfl).1 56 rfl
        have ocn : ∀ v, ρ (.const v) = v := fun v => hout (.const v) rfl
        have ofn : ∀ f, ρ (.func f) = .func (.func f) #[] #[] := fun f => hout (.func f) rfl
        clear hdep hout
        refine .inl ⟨?_, ?_⟩
        · rfl
        show Gives _ _ _ (.bool false) _
        refine Gives.val ?_
        go_simp
      cases ho
    case fin =>
      intro x hBx
      have hBf := HAl.out.trans (hBx.mono HAl.out.size)
      go_wp2_with fail
      go_ret
      exact ⟨retBool (by have hfl := HFN.out.1; first | (simp [endF, noSite, HFN.out.1, hs, ho]; done) | (simp [endF, noSite, HFN.out.1, hs, ho]; intros; omega) | (simp_all [endF, noSite]; done) | (simp_all [endF, noSite] <;> omega)), hBf⟩
  · by_cases e1 : n2 = 1
    · subst e1
      go_enter Try.func77, Try.ntmps77
      go_wp2_with fail
      go_ret
      exact ⟨retBool (by have hfl := HFN.out.1; first | (simp [endF, noSite, HFN.out.1, hs, ho]; done) | (simp [endF, noSite, HFN.out.1, hs, ho]; intros; omega) | (simp_all [endF, noSite]; done) | (simp_all [endF, noSite] <;> omega)), by first | exact (Below.refl _ _).alloc (Nat.le_refl _) _ | go_grown⟩
    · go_enter Try.func77, Try.ntmps77
      go_wp2_with fail
      all_goals
        go_ret
        exact ⟨retBool (by have hfl := HFN.out.1; first | (simp [endF, noSite, HFN.out.1, hs, ho, e1, e2, *]; done) | (simp [endF, noSite, HFN.out.1, hs, ho, e1, e2, *]; intros; omega) | (simp_all [endF, noSite]; done) | (simp_all [endF, noSite] <;> omega)), by first | exact (Below.refl _ _).alloc (Nat.le_refl _) _ | go_grown⟩

set_option maxRecDepth 100000 in
set_option maxHeartbeats 8000000 in
theorem endOk_S2G2 (x0 : World) (B : Nat) (v : Value) (P : List (List I4)) (h : ProgAt x0 B v P) (hok : progOkF P = true) (s : Value) (F : List Fr) (hF : FrsAt x0 s F) (hl5 : F.length ≤ 5) (n1 n2 n3 n4 n5 n6 : Int) (hs0 : n4 = 0) (hs1 : n5 = 0) (hs : ¬ n6 = 0) (hg : 0 < F.length) (ho : n3 = 0) :
    Calls Try.prog 77 #[v, aggRun s (n1, n2, n3, n4, n5, n6)] x0 fun e y => e = .returned (.bool (endF P F n2 n3 (n4, n5, n6))) ∧ Below x0.heap.size x0 y := by
  obtain ⟨p, cap, rfl, _⟩ := h.shape
  obtain ⟨ps, cs, rfl, _⟩ := hF.shape
  unfold aggRun
  dsimp only
  have H : Hid (ProgAt x0 B (.slice p P.length cap) P) := h
  have HOK : Hid (progOkF P = true) := hok
  have HS : Hid (FrsAt x0 (.slice ps F.length cs) F) := hF
  have hl := progOkF_len hok
  have hn4 : (P.length : Int) ≤ 4 := by omega
  have hf5 : (F.length : Int) ≤ 5 := by omega
  clear h hok hF hl
  subst hs0
  subst hs1
  have hsb : (n6 == 0) = false := by simpa using hs
  subst ho
  generalize hfn : F.length = fn at *
  generalize hpn : P.length = pn at *
  have HFN : Hid (F.length = fn ∧ P.length = pn) := ⟨hfn, hpn⟩
  clear hfn hpn
  have hgi : (0 : Int) < (fn : Int) := by omega
  by_cases e2 : n2 = 2
  · subst e2
    have HAl : Hid (Below x0.heap.size x0 (x0.alloc (.cells #[.slice ps fn cs, .int .i64 n1, .int .i64 2, .int .i64 0, .int .i64 0, .int .i64 0, .int .i64 n6] 56))) := (Below.refl _ _).alloc (Nat.le_refl _) _
    have K00 : Hid (BxN (x0.alloc (.cells #[.slice ps fn cs, .int .i64 n1, .int .i64 2, .int .i64 0, .int .i64 0, .int .i64 0, .int .i64 n6] 56)) x0.heap.size [.slice ps fn cs, .int .i64 n1, .int .i64 2, .int .i64 0, .int .i64 0, .int .i64 0, .int .i64 n6]) := BxN.new x0 [_, _, _, _, _, _, _] _
    go_enter Try.func77, Try.ntmps77
    go_wp2_with fail
    generalize x0.alloc (.cells #[.slice ps fn cs, .int .i64 n1, .int .i64 2, .int .i64 0, .int .i64 0, .int .i64 0, .int .i64 n6] 56) = X at HAl K00 ⊢
    cases hso : siteOkF P (0, 0, n6)
    · skip
      have HSO : Hid (∀ z : World, Below x0.heap.size x0 z → Calls Try.prog 111 #[.slice p pn cap, .agg #[.int .i64 0, .int .i64 0, .int .i64 n6]] z fun e y => e = .returned (.bool false) ∧ Below z.heap.size z y) := fun z hz => by
        have := siteOk_any z B (.slice p pn cap) P (H.out.later hz) HOK.out (0, 0, n6)
        rw [hso] at this; exact this
      refine wp_region_vals (by kernel_rfl) (by kernel_rfl) (by kernel_rfl) (by kernel_rfl) (fun j => [.bool true, .bool true, .slice p pn cap, .pointer (some ⟨x0.heap.size, 4, none⟩), .agg #[.int .i64 0, .int .i64 0, .int .i64 n6], .bool false, .bool false, .bool false, undef, undef, undef, undef, .bool false, .bool false].getD j undef) X (Below.drew (Below.refl _ _)) ?step ⟨#[.slice p pn cap, .agg #[.slice ps fn cs, .int .i64 n1, .int .i64 2, .int .i64 0, .int .i64 0, .int .i64 0, .int .i64 n6], undef, .pointer (some ⟨x0.heap.size, 0, none⟩), .bool false, .bool true, .bool false, .pointer (some ⟨x0.heap.size, 0, none⟩), .slice ps fn cs, .int .i64 ↑fn, .bool true, .bool true, .pointer (some ⟨x0.heap.size, 3, none⟩), .int .i64 0, .bool true, .bool true, .pointer (some ⟨x0.heap.size, 4, none⟩), .agg #[.int .i64 0, .int .i64 0, .int .i64 n6], .agg #[.int .i64 0, .int .i64 0, .int .i64 0], .bool false, .pointer (some ⟨x0.heap.size, 2, none⟩), .int .i64 2, .bool false, .bool false, undef, undef, undef, undef, .bool false, .bool false, undef, undef, undef, undef, undef, undef, undef, undef, undef, undef, undef, undef, .bool true, .bool true, .bool true, .bool true, .slice p pn cap, .pointer (some ⟨x0.heap.size, 4, none⟩), .agg #[.int .i64 0, .int .i64 0, .int .i64 n6], .bool false, .bool false, .bool false, undef, undef, undef, undef, .bool false, undef, undef, undef, undef, undef, undef, undef, undef, undef, undef, undef, undef], []⟩ (by kernel_rfl) ?fin
      case step =>
        intro i o ho ρ y x hBx hdep hout
        rcases i with _ | i
        · obtain rfl := Option.some.inj ho
          have o5 : ρ (.tmp 5) = .bool true := hout (.tmp 5) rfl
          have ocn : ∀ v, ρ (.const v) = v := fun v => hout (.const v) rfl
          have ofn : ∀ f, ρ (.func f) = .func (.func f) #[] #[] := fun f => hout (.func f) rfl
          clear hdep hout
          refine .inl ⟨?_, ?_⟩
          · rfl
          show Gives _ _ _ (.bool true) _
          refine Gives.val ?_
          go_simp
        rcases i with _ | i
        · obtain rfl := Option.some.inj ho
          have e0 : ρ (.tmp 44) = .bool true := (hdep ⟨0, .data⟩ (by simp) rfl).1 44 rfl
          have ocn : ∀ v, ρ (.const v) = v := fun v => hout (.const v) rfl
          have ofn : ∀ f, ρ (.func f) = .func (.func f) #[] #[] := fun f => hout (.func f) rfl
          clear hdep hout
          refine .inl ⟨?_, ?_⟩
          · rfl
          show Gives _ _ _ (.bool true) _
          refine Gives.val ?_
          go_simp
        rcases i with _ | i
        · obtain rfl := Option.some.inj ho
          have o0 : ρ (.tmp 0) = .slice p pn cap := hout (.tmp 0) rfl
          have yg : y 1 = some true := (hdep ⟨1, .guard⟩ (by simp) rfl).2 45 rfl
          have ocn : ∀ v, ρ (.const v) = v := fun v => hout (.const v) rfl
          have ofn : ∀ f, ρ (.func f) = .func (.func f) #[] #[] := fun f => hout (.func f) rfl
          clear hdep hout
          refine .inl ⟨?_, ?_⟩
          · show (y 1 == some true) = true
            rw [yg]; rfl
          show Gives _ _ _ (.slice p pn cap) _
          refine Gives.val ?_
          go_simp
        rcases i with _ | i
        · obtain rfl := Option.some.inj ho
          have o3 : ρ (.tmp 3) = .pointer (some ⟨x0.heap.size, 0, none⟩) := hout (.tmp 3) rfl
          have yg : y 1 = some true := (hdep ⟨1, .guard⟩ (by simp) rfl).2 45 rfl
          have ocn : ∀ v, ρ (.const v) = v := fun v => hout (.const v) rfl
          have ofn : ∀ f, ρ (.func f) = .func (.func f) #[] #[] := fun f => hout (.func f) rfl
          clear hdep hout
          refine .inl ⟨?_, ?_⟩
          · show (y 1 == some true) = true
            rw [yg]; rfl
          show Gives _ _ _ (.pointer (some ⟨x0.heap.size, 4, none⟩)) _
          refine Gives.val ?_
          go_simp
        rcases i with _ | i
        · obtain rfl := Option.some.inj ho
          have e3 : ρ (.tmp 47) = .pointer (some ⟨x0.heap.size, 4, none⟩) := (hdep ⟨3, .data⟩ (by simp) rfl).1 47 rfl
          have yg : y 1 = some true := (hdep ⟨1, .guard⟩ (by simp) rfl).2 45 rfl
          have ocn : ∀ v, ρ (.const v) = v := fun v => hout (.const v) rfl
          have ofn : ∀ f, ρ (.func f) = .func (.func f) #[] #[] := fun f => hout (.func f) rfl
          clear hdep hout
          refine .inl ⟨?_, ?_⟩
          · show (y 1 == some true) = true
            rw [yg]; rfl
          have kb := K00.out.later hBx
          have c0 := kb.c 0 _ rfl
          have c3 := kb.c 3 _ rfl
          have c4 := kb.c 4 _ rfl
          have c5 := kb.c 5 _ rfl
          have c6 := kb.c 6 _ rfl
          have cl0 := kb.lt
          show Gives _ _ _ (.agg #[.int .i64 0, .int .i64 0, .int .i64 n6]) _
          refine Gives.val ?_
          go_simp
        rcases i with _ | i
        · obtain rfl := Option.some.inj ho
          have e2 : ρ (.tmp 46) = .slice p pn cap := (hdep ⟨2, .data⟩ (by simp) rfl).1 46 rfl
          have e4 : ρ (.tmp 48) = .agg #[.int .i64 0, .int .i64 0, .int .i64 n6] := (hdep ⟨4, .data⟩ (by simp) rfl).1 48 rfl
          have yg : y 1 = some true := (hdep ⟨1, .guard⟩ (by simp) rfl).2 45 rfl
          have ocn : ∀ v, ρ (.const v) = v := fun v => hout (.const v) rfl
          have ofn : ∀ f, ρ (.func f) = .func (.func f) #[] #[] := fun f => hout (.func f) rfl
          clear hdep hout
          refine .inl ⟨?_, ?_⟩
          · show (y 1 == some true) = true
            rw [yg]; rfl
          show Gives _ _ _ (.bool false) _
          refine Gives.call (HSO.out x (HAl.out.trans (hBx.mono HAl.out.size))) ?_
          go_simp
        rcases i with _ | i
        · obtain rfl := Option.some.inj ho
          have e1 : ρ (.tmp 45) = .bool true := (hdep ⟨1, .data⟩ (by simp) rfl).1 45 rfl
          have e5 : ρ (.tmp 49) = .bool false := (hdep ⟨5, .data⟩ (by simp) rfl).1 49 rfl
          have ocn : ∀ v, ρ (.const v) = v := fun v => hout (.const v) rfl
          have ofn : ∀ f, ρ (.func f) = .func (.func f) #[] #[] := fun f => hout (.func f) rfl
          clear hdep hout
          refine .inl ⟨?_, ?_⟩
          · rfl
          show Gives _ _ _ (.bool false) _
          refine Gives.val ?_
          go_simp
        rcases i with _ | i
        · obtain rfl := Option.some.inj ho
          have e6 : ρ (.tmp 50) = .bool false := (hdep ⟨6, .data⟩ (by simp) rfl).1 50 rfl
          have ocn : ∀ v, ρ (.const v) = v := fun v => hout (.const v) rfl
          have ofn : ∀ f, ρ (.func f) = .func (.func f) #[] #[] := fun f => hout (.func f) rfl
          clear hdep hout
          refine .inl ⟨?_, ?_⟩
          · rfl
          show Gives _ _ _ (.bool false) _
          refine Gives.val ?_
          go_simp
        rcases i with _ | i
        · obtain rfl := Option.some.inj ho
          have o3 : ρ (.tmp 3) = .pointer (some ⟨x0.heap.size, 0, none⟩) := hout (.tmp 3) rfl
          have yg : y 7 = some false := (hdep ⟨7, .guard⟩ (by simp) rfl).2 51 rfl
          have ocn : ∀ v, ρ (.const v) = v := fun v => hout (.const v) rfl
          have ofn : ∀ f, ρ (.func f) = .func (.func f) #[] #[] := fun f => hout (.func f) rfl
          clear hdep hout
          refine .inr ⟨?_, rfl⟩
          show (y 7 == some true) = false
          rw [yg]; rfl
        rcases i with _ | i
        · obtain rfl := Option.some.inj ho
          have e8 : ρ (.tmp 52) = undef := (hdep ⟨8, .data⟩ (by simp) rfl).1 52 rfl
          have yg : y 7 = some false := (hdep ⟨7, .guard⟩ (by simp) rfl).2 51 rfl
          have ocn : ∀ v, ρ (.const v) = v := fun v => hout (.const v) rfl
          have ofn : ∀ f, ρ (.func f) = .func (.func f) #[] #[] := fun f => hout (.func f) rfl
          clear hdep hout
          refine .inr ⟨?_, rfl⟩
          show (y 7 == some true) = false
          rw [yg]; rfl
        rcases i with _ | i
        · obtain rfl := Option.some.inj ho
          have o3 : ρ (.tmp 3) = .pointer (some ⟨x0.heap.size, 0, none⟩) := hout (.tmp 3) rfl
          have yg : y 7 = some false := (hdep ⟨7, .guard⟩ (by simp) rfl).2 51 rfl
          have ocn : ∀ v, ρ (.const v) = v := fun v => hout (.const v) rfl
          have ofn : ∀ f, ρ (.func f) = .func (.func f) #[] #[] := fun f => hout (.func f) rfl
          clear hdep hout
          refine .inr ⟨?_, rfl⟩
          show (y 7 == some true) = false
          rw [yg]; rfl
        rcases i with _ | i
        · obtain rfl := Option.some.inj ho
          have e9 : ρ (.tmp 53) = undef := (hdep ⟨9, .data⟩ (by simp) rfl).1 53 rfl
          have e10 : ρ (.tmp 54) = undef := (hdep ⟨10, .data⟩ (by simp) rfl).1 54 rfl
          have yg : y 7 = some false := (hdep ⟨7, .guard⟩ (by simp) rfl).2 51 rfl
          have ocn : ∀ v, ρ (.const v) = v := fun v => hout (.const v) rfl
          have ofn : ∀ f, ρ (.func f) = .func (.func f) #[] #[] := fun f => hout (.func f) rfl
          clear hdep hout
          refine .inr ⟨?_, rfl⟩
          show (y 7 == some true) = false
          rw [yg]; rfl
        rcases i with _ | i
        · obtain rfl := Option.some.inj ho
          have e7 : ρ (.tmp 51) = .bool false := (hdep ⟨7, .data⟩ (by simp) rfl).1 51 rfl
          have e11 : ρ (.tmp 55) = undef := (hdep ⟨11, .data⟩ (by simp) rfl).1 55 rfl
          have ocn : ∀ v, ρ (.const v) = v := fun v => hout (.const v) rfl
          have ofn : ∀ f, ρ (.func f) = .func (.func f) #[] #[] := fun f => hout (.func f) rfl
          clear hdep hout
          refine .inl ⟨?_, ?_⟩
          · rfl
          show Gives _ _ _ (.bool false) _
          refine Gives.val ?_
          go_simp
        rcases i with _ | i
        · obtain rfl := Option.some.inj ho
          have e12 : ρ (.tmp 56) = .bool false := (hdep ⟨12, .data⟩ (by simp) rfl).1 56 rfl
          have ocn : ∀ v, ρ (.const v) = v := fun v => hout (.const v) rfl
          have ofn : ∀ f, ρ (.func f) = .func (.func f) #[] #[] := fun f => hout (.func f) rfl
          clear hdep hout
          refine .inl ⟨?_, ?_⟩
          · rfl
          show Gives _ _ _ (.bool false) _
          refine Gives.val ?_
          go_simp
        cases ho
      case fin =>
        intro x hBx
        have hBf := HAl.out.trans (hBx.mono HAl.out.size)
        go_wp2_with fail
        go_ret
        exact ⟨retBool (by have hfl := HFN.out.1; first | (simp [endF, noSite, HFN.out.1, hs, hg, hso]; done) | (simp [endF, noSite, HFN.out.1, hs, hg, hso]; intros; omega) | (simp_all [endF, noSite]; done) | (simp_all [endF, noSite] <;> omega)), hBf⟩
    · skip
      have HSO : Hid (∀ z : World, Below x0.heap.size x0 z → Calls Try.prog 111 #[.slice p pn cap, .agg #[.int .i64 0, .int .i64 0, .int .i64 n6]] z fun e y => e = .returned (.bool true) ∧ Below z.heap.size z y) := fun z hz => by
        have := siteOk_any z B (.slice p pn cap) P (H.out.later hz) HOK.out (0, 0, n6)
        rw [hso] at this; exact this
      obtain ⟨g, o, hp, hgx, hfr⟩ := FrsAt.frame (p := ps) (cap := cs) (F := F) (j := F.length - 1) (by have := HS.out; rw [← HFN.out.1] at this; exact this) (by rw [HFN.out.1]; omega)
      subst hp
      have HT : Hid ((F.getD (F.length - 1) fr0) = topF F) := rfl
      rw [HT.out] at hfr
      rw [HFN.out.1] at hfr
      have t0 := hfr.c0
      have t2 := hfr.c2
      have HTP : Hid (∀ z : World, Below X.heap.size X z → Calls Try.prog 113 #[.pointer (some ⟨x0.heap.size, 0, none⟩)] z fun e y => e = .returned (.pointer (some ⟨g, o + (fn - 1) * 6, none⟩)) ∧ Below z.heap.size z y) := fun z hz => by
        have kb := K00.out.later hz
        exact top_any z x0.heap.size g o fn cs (kb.c 0 _ rfl) hg (by have := HFN.out.1; omega) kb.lt (Nat.lt_of_lt_of_le hgx (HAl.out.trans (hz.mono HAl.out.size)).size)
      have HIS : Hid (∀ z : World, Below X.heap.size X z → Calls Try.prog 112 #[.agg #[.int .i64 0, .int .i64 0, .int .i64 n6], .pointer (some ⟨g, o + (fn - 1) * 6, none⟩)] z fun e y => e = .returned (.bool (decide (0 = (topF F).p) && decide (0 = (topF F).t))) ∧ Below z.heap.size z y) := fun z hz => by
        have hbz := HAl.out.trans (hz.mono HAl.out.size)
        exact isOf_any z g (o + (fn - 1) * 6) (topF F).p (topF F).t (0, 0, n6) ((hbz.cell (p := ⟨g, _, none⟩) hgx).trans t0) ((hbz.cell (p := ⟨g, _, none⟩) hgx).trans t2) (Nat.lt_of_lt_of_le hgx hbz.size)
      refine wp_region_vals (by kernel_rfl) (by kernel_rfl) (by kernel_rfl) (by kernel_rfl) (fun j => [.bool true, .bool true, .slice p pn cap, .pointer (some ⟨x0.heap.size, 4, none⟩), .agg #[.int .i64 0, .int .i64 0, .int .i64 n6], .bool true, .bool true, .bool true, .pointer (some ⟨x0.heap.size, 4, none⟩), .agg #[.int .i64 0, .int .i64 0, .int .i64 n6], .pointer (some ⟨g, o + (fn - 1) * 6, none⟩), .bool (decide (0 = (topF F).p) && decide (0 = (topF F).t)), .bool (decide (0 = (topF F).p) && decide (0 = (topF F).t)), .bool (decide (0 = (topF F).p) && decide (0 = (topF F).t))].getD j undef) X (Below.drew (Below.refl _ _)) ?step ⟨#[.slice p pn cap, .agg #[.slice (some ⟨g, o, none⟩) fn cs, .int .i64 n1, .int .i64 2, .int .i64 0, .int .i64 0, .int .i64 0, .int .i64 n6], undef, .pointer (some ⟨x0.heap.size, 0, none⟩), .bool (decide (0 = (topF F).p) && decide (0 = (topF F).t)), .bool true, .bool false, .pointer (some ⟨x0.heap.size, 0, none⟩), .slice (some ⟨g, o, none⟩) fn cs, .int .i64 ↑fn, .bool true, .bool true, .pointer (some ⟨x0.heap.size, 3, none⟩), .int .i64 0, .bool true, .bool true, .pointer (some ⟨x0.heap.size, 4, none⟩), .agg #[.int .i64 0, .int .i64 0, .int .i64 n6], .agg #[.int .i64 0, .int .i64 0, .int .i64 0], .bool false, .pointer (some ⟨x0.heap.size, 2, none⟩), .int .i64 2, .bool false, .bool false, undef, undef, undef, undef, .bool false, .bool false, undef, undef, undef, undef, undef, undef, undef, undef, undef, undef, undef, undef, .bool true, .bool true, .bool true, .bool true, .slice p pn cap, .pointer (some ⟨x0.heap.size, 4, none⟩), .agg #[.int .i64 0, .int .i64 0, .int .i64 n6], .bool true, .bool true, .bool true, .pointer (some ⟨x0.heap.size, 4, none⟩), .agg #[.int .i64 0, .int .i64 0, .int .i64 n6], .pointer (some ⟨g, o + (fn - 1) * 6, none⟩), .bool (decide (0 = (topF F).p) && decide (0 = (topF F).t)), .bool (decide (0 = (topF F).p) && decide (0 = (topF F).t)), undef, undef, undef, undef, undef, undef, undef, undef, undef, undef, undef, undef], []⟩ (by kernel_rfl) ?fin
      case step =>
        intro i o ho ρ y x hBx hdep hout
        rcases i with _ | i
        · obtain rfl := Option.some.inj ho
          have o5 : ρ (.tmp 5) = .bool true := hout (.tmp 5) rfl
          have ocn : ∀ v, ρ (.const v) = v := fun v => hout (.const v) rfl
          have ofn : ∀ f, ρ (.func f) = .func (.func f) #[] #[] := fun f => hout (.func f) rfl
          clear hdep hout
          refine .inl ⟨?_, ?_⟩
          · rfl
          show Gives _ _ _ (.bool true) _
          refine Gives.val ?_
          go_simp
        rcases i with _ | i
        · obtain rfl := Option.some.inj ho
          have e0 : ρ (.tmp 44) = .bool true := (hdep ⟨0, .data⟩ (by simp) rfl).1 44 rfl
          have ocn : ∀ v, ρ (.const v) = v := fun v => hout (.const v) rfl
          have ofn : ∀ f, ρ (.func f) = .func (.func f) #[] #[] := fun f => hout (.func f) rfl
          clear hdep hout
          refine .inl ⟨?_, ?_⟩
          · rfl
          show Gives _ _ _ (.bool true) _
          refine Gives.val ?_
          go_simp
        rcases i with _ | i
        · obtain rfl := Option.some.inj ho
          have o0 : ρ (.tmp 0) = .slice p pn cap := hout (.tmp 0) rfl
          have yg : y 1 = some true := (hdep ⟨1, .guard⟩ (by simp) rfl).2 45 rfl
          have ocn : ∀ v, ρ (.const v) = v := fun v => hout (.const v) rfl
          have ofn : ∀ f, ρ (.func f) = .func (.func f) #[] #[] := fun f => hout (.func f) rfl
          clear hdep hout
          refine .inl ⟨?_, ?_⟩
          · show (y 1 == some true) = true
            rw [yg]; rfl
          show Gives _ _ _ (.slice p pn cap) _
          refine Gives.val ?_
          go_simp
        rcases i with _ | i
        · obtain rfl := Option.some.inj ho
          have o3 : ρ (.tmp 3) = .pointer (some ⟨x0.heap.size, 0, none⟩) := hout (.tmp 3) rfl
          have yg : y 1 = some true := (hdep ⟨1, .guard⟩ (by simp) rfl).2 45 rfl
          have ocn : ∀ v, ρ (.const v) = v := fun v => hout (.const v) rfl
          have ofn : ∀ f, ρ (.func f) = .func (.func f) #[] #[] := fun f => hout (.func f) rfl
          clear hdep hout
          refine .inl ⟨?_, ?_⟩
          · show (y 1 == some true) = true
            rw [yg]; rfl
          show Gives _ _ _ (.pointer (some ⟨x0.heap.size, 4, none⟩)) _
          refine Gives.val ?_
          go_simp
        rcases i with _ | i
        · obtain rfl := Option.some.inj ho
          have e3 : ρ (.tmp 47) = .pointer (some ⟨x0.heap.size, 4, none⟩) := (hdep ⟨3, .data⟩ (by simp) rfl).1 47 rfl
          have yg : y 1 = some true := (hdep ⟨1, .guard⟩ (by simp) rfl).2 45 rfl
          have ocn : ∀ v, ρ (.const v) = v := fun v => hout (.const v) rfl
          have ofn : ∀ f, ρ (.func f) = .func (.func f) #[] #[] := fun f => hout (.func f) rfl
          clear hdep hout
          refine .inl ⟨?_, ?_⟩
          · show (y 1 == some true) = true
            rw [yg]; rfl
          have kb := K00.out.later hBx
          have c0 := kb.c 0 _ rfl
          have c3 := kb.c 3 _ rfl
          have c4 := kb.c 4 _ rfl
          have c5 := kb.c 5 _ rfl
          have c6 := kb.c 6 _ rfl
          have cl0 := kb.lt
          show Gives _ _ _ (.agg #[.int .i64 0, .int .i64 0, .int .i64 n6]) _
          refine Gives.val ?_
          go_simp
        rcases i with _ | i
        · obtain rfl := Option.some.inj ho
          have e2 : ρ (.tmp 46) = .slice p pn cap := (hdep ⟨2, .data⟩ (by simp) rfl).1 46 rfl
          have e4 : ρ (.tmp 48) = .agg #[.int .i64 0, .int .i64 0, .int .i64 n6] := (hdep ⟨4, .data⟩ (by simp) rfl).1 48 rfl
          have yg : y 1 = some true := (hdep ⟨1, .guard⟩ (by simp) rfl).2 45 rfl
          have ocn : ∀ v, ρ (.const v) = v := fun v => hout (.const v) rfl
          have ofn : ∀ f, ρ (.func f) = .func (.func f) #[] #[] := fun f => hout (.func f) rfl
          clear hdep hout
          refine .inl ⟨?_, ?_⟩
          · show (y 1 == some true) = true
            rw [yg]; rfl
          show Gives _ _ _ (.bool true) _
          refine Gives.call (HSO.out x (HAl.out.trans (hBx.mono HAl.out.size))) ?_
          go_simp
        rcases i with _ | i
        · obtain rfl := Option.some.inj ho
          have e1 : ρ (.tmp 45) = .bool true := (hdep ⟨1, .data⟩ (by simp) rfl).1 45 rfl
          have e5 : ρ (.tmp 49) = .bool true := (hdep ⟨5, .data⟩ (by simp) rfl).1 49 rfl
          have ocn : ∀ v, ρ (.const v) = v := fun v => hout (.const v) rfl
          have ofn : ∀ f, ρ (.func f) = .func (.func f) #[] #[] := fun f => hout (.func f) rfl
          clear hdep hout
          refine .inl ⟨?_, ?_⟩
          · rfl
          show Gives _ _ _ (.bool true) _
          refine Gives.val ?_
          go_simp
        rcases i with _ | i
        · obtain rfl := Option.some.inj ho
          have e6 : ρ (.tmp 50) = .bool true := (hdep ⟨6, .data⟩ (by simp) rfl).1 50 rfl
          have ocn : ∀ v, ρ (.const v) = v := fun v => hout (.const v) rfl
          have ofn : ∀ f, ρ (.func f) = .func (.func f) #[] #[] := fun f => hout (.func f) rfl
          clear hdep hout
          refine .inl ⟨?_, ?_⟩
          · rfl
          show Gives _ _ _ (.bool true) _
          refine Gives.val ?_
          go_simp
        rcases i with _ | i
        · obtain rfl := Option.some.inj ho
          have o3 : ρ (.tmp 3) = .pointer (some ⟨x0.heap.size, 0, none⟩) := hout (.tmp 3) rfl
          have yg : y 7 = some true := (hdep ⟨7, .guard⟩ (by simp) rfl).2 51 rfl
          have ocn : ∀ v, ρ (.const v) = v := fun v => hout (.const v) rfl
          have ofn : ∀ f, ρ (.func f) = .func (.func f) #[] #[] := fun f => hout (.func f) rfl
          clear hdep hout
          refine .inl ⟨?_, ?_⟩
          · show (y 7 == some true) = true
            rw [yg]; rfl
          show Gives _ _ _ (.pointer (some ⟨x0.heap.size, 4, none⟩)) _
          refine Gives.val ?_
          go_simp
        rcases i with _ | i
        · obtain rfl := Option.some.inj ho
          have e8 : ρ (.tmp 52) = .pointer (some ⟨x0.heap.size, 4, none⟩) := (hdep ⟨8, .data⟩ (by simp) rfl).1 52 rfl
          have yg : y 7 = some true := (hdep ⟨7, .guard⟩ (by simp) rfl).2 51 rfl
          have ocn : ∀ v, ρ (.const v) = v := fun v => hout (.const v) rfl
          have ofn : ∀ f, ρ (.func f) = .func (.func f) #[] #[] := fun f => hout (.func f) rfl
          clear hdep hout
          refine .inl ⟨?_, ?_⟩
          · show (y 7 == some true) = true
            rw [yg]; rfl
          have kb := K00.out.later hBx
          have c0 := kb.c 0 _ rfl
          have c3 := kb.c 3 _ rfl
          have c4 := kb.c 4 _ rfl
          have c5 := kb.c 5 _ rfl
          have c6 := kb.c 6 _ rfl
          have cl0 := kb.lt
          show Gives _ _ _ (.agg #[.int .i64 0, .int .i64 0, .int .i64 n6]) _
          refine Gives.val ?_
          go_simp
        rcases i with _ | i
        · obtain rfl := Option.some.inj ho
          have o3 : ρ (.tmp 3) = .pointer (some ⟨x0.heap.size, 0, none⟩) := hout (.tmp 3) rfl
          have yg : y 7 = some true := (hdep ⟨7, .guard⟩ (by simp) rfl).2 51 rfl
          have ocn : ∀ v, ρ (.const v) = v := fun v => hout (.const v) rfl
          have ofn : ∀ f, ρ (.func f) = .func (.func f) #[] #[] := fun f => hout (.func f) rfl
          clear hdep hout
          refine .inl ⟨?_, ?_⟩
          · show (y 7 == some true) = true
            rw [yg]; rfl
          show Gives _ _ _ (.pointer (some ⟨g, o + (fn - 1) * 6, none⟩)) _
          refine Gives.call (HTP.out x hBx) ?_
          go_simp
        rcases i with _ | i
        · obtain rfl := Option.some.inj ho
          have e9 : ρ (.tmp 53) = .agg #[.int .i64 0, .int .i64 0, .int .i64 n6] := (hdep ⟨9, .data⟩ (by simp) rfl).1 53 rfl
          have e10 : ρ (.tmp 54) = .pointer (some ⟨g, o + (fn - 1) * 6, none⟩) := (hdep ⟨10, .data⟩ (by simp) rfl).1 54 rfl
          have yg : y 7 = some true := (hdep ⟨7, .guard⟩ (by simp) rfl).2 51 rfl
          have ocn : ∀ v, ρ (.const v) = v := fun v => hout (.const v) rfl
          have ofn : ∀ f, ρ (.func f) = .func (.func f) #[] #[] := fun f => hout (.func f) rfl
          clear hdep hout
          refine .inl ⟨?_, ?_⟩
          · show (y 7 == some true) = true
            rw [yg]; rfl
          show Gives _ _ _ (.bool (decide (0 = (topF F).p) && decide (0 = (topF F).t))) _
          refine Gives.call (HIS.out x hBx) ?_
          go_simp
        rcases i with _ | i
        · obtain rfl := Option.some.inj ho
          have e7 : ρ (.tmp 51) = .bool true := (hdep ⟨7, .data⟩ (by simp) rfl).1 51 rfl
          have e11 : ρ (.tmp 55) = .bool (decide (0 = (topF F).p) && decide (0 = (topF F).t)) := (hdep ⟨11, .data⟩ (by simp) rfl).1 55 rfl
          have ocn : ∀ v, ρ (.const v) = v := fun v => hout (.const v) rfl
          have ofn : ∀ f, ρ (.func f) = .func (.func f) #[] #[] := fun f => hout (.func f) rfl
          clear hdep hout
          refine .inl ⟨?_, ?_⟩
          · rfl
          show Gives _ _ _ (.bool (decide (0 = (topF F).p) && decide (0 = (topF F).t))) _
          refine Gives.val ?_
          go_simp
        rcases i with _ | i
        · obtain rfl := Option.some.inj ho
          have e12 : ρ (.tmp 56) = .bool (decide (0 = (topF F).p) && decide (0 = (topF F).t)) := (hdep ⟨12, .data⟩ (by simp) rfl).1 56 rfl
          have ocn : ∀ v, ρ (.const v) = v := fun v => hout (.const v) rfl
          have ofn : ∀ f, ρ (.func f) = .func (.func f) #[] #[] := fun f => hout (.func f) rfl
          clear hdep hout
          refine .inl ⟨?_, ?_⟩
          · rfl
          show Gives _ _ _ (.bool (decide (0 = (topF F).p) && decide (0 = (topF F).t))) _
          refine Gives.val ?_
          go_simp
        cases ho
      case fin =>
        intro x hBx
        have hBf := HAl.out.trans (hBx.mono HAl.out.size)
        go_wp2_with fail
        go_ret
        exact ⟨retBool (by have hfl := HFN.out.1; first | (simp [endF, noSite, HFN.out.1, hs, hg, hso]; done) | (simp [endF, noSite, HFN.out.1, hs, hg, hso]; intros; omega) | (simp_all [endF, noSite]; done) | (simp_all [endF, noSite] <;> omega)), hBf⟩
  · by_cases e1 : n2 = 1
    · subst e1
      go_enter Try.func77, Try.ntmps77
      go_wp2_with fail
      go_ret
      exact ⟨retBool (by have hfl := HFN.out.1; first | (simp [endF, noSite, HFN.out.1, hs, hg]; done) | (simp [endF, noSite, HFN.out.1, hs, hg]; intros; omega) | (simp_all [endF, noSite]; done) | (simp_all [endF, noSite] <;> omega)), by first | exact (Below.refl _ _).alloc (Nat.le_refl _) _ | go_grown⟩
    · go_enter Try.func77, Try.ntmps77
      go_wp2_with fail
      all_goals
        go_ret
        exact ⟨retBool (by have hfl := HFN.out.1; first | (simp [endF, noSite, HFN.out.1, hs, hg, e1, e2, *]; done) | (simp [endF, noSite, HFN.out.1, hs, hg, e1, e2, *]; intros; omega) | (simp_all [endF, noSite]; done) | (simp_all [endF, noSite] <;> omega)), by first | exact (Below.refl _ _).alloc (Nat.le_refl _) _ | go_grown⟩

set_option maxRecDepth 100000 in
set_option maxHeartbeats 8000000 in
theorem endOk_S3G0 (x0 : World) (B : Nat) (v : Value) (P : List (List I4)) (h : ProgAt x0 B v P) (hok : progOkF P = true) (s : Value) (F : List Fr) (hF : FrsAt x0 s F) (hl5 : F.length ≤ 5) (n1 n2 n3 n4 n5 n6 : Int) (hs0 : n4 = 0) (hs1 : n5 = 0) (hs2 : n6 = 0) (hg : F.length = 0) :
    Calls Try.prog 77 #[v, aggRun s (n1, n2, n3, n4, n5, n6)] x0 fun e y => e = .returned (.bool (endF P F n2 n3 (n4, n5, n6))) ∧ Below x0.heap.size x0 y := by
  obtain ⟨p, cap, rfl, _⟩ := h.shape
  obtain ⟨ps, cs, rfl, _⟩ := hF.shape
  unfold aggRun
  dsimp only
  have H : Hid (ProgAt x0 B (.slice p P.length cap) P) := h
  have HOK : Hid (progOkF P = true) := hok
  have HS : Hid (FrsAt x0 (.slice ps F.length cs) F) := hF
  have hl := progOkF_len hok
  have hn4 : (P.length : Int) ≤ 4 := by omega
  have hf5 : (F.length : Int) ≤ 5 := by omega
  clear h hok hF hl
  subst hs0
  subst hs1
  subst hs2
  generalize hfn : F.length = fn at *
  generalize hpn : P.length = pn at *
  have HFN : Hid (F.length = fn ∧ P.length = pn) := ⟨hfn, hpn⟩
  clear hfn hpn
  subst hg
  by_cases e2 : n2 = 2
  · subst e2
    have HAl : Hid (Below x0.heap.size x0 (x0.alloc (.cells #[.slice ps 0 cs, .int .i64 n1, .int .i64 2, .int .i64 n3, .int .i64 0, .int .i64 0, .int .i64 0] 56))) := (Below.refl _ _).alloc (Nat.le_refl _) _
    have K00 : Hid (BxN (x0.alloc (.cells #[.slice ps 0 cs, .int .i64 n1, .int .i64 2, .int .i64 n3, .int .i64 0, .int .i64 0, .int .i64 0] 56)) x0.heap.size [.slice ps 0 cs, .int .i64 n1, .int .i64 2, .int .i64 n3, .int .i64 0, .int .i64 0, .int .i64 0]) := BxN.new x0 [_, _, _, _, _, _, _] _
    go_enter Try.func77, Try.ntmps77
    go_wp2_with fail
    generalize x0.alloc (.cells #[.slice ps 0 cs, .int .i64 n1, .int .i64 2, .int .i64 n3, .int .i64 0, .int .i64 0, .int .i64 0] 56) = X at HAl K00 ⊢
    refine wp_region_vals (by kernel_rfl) (by kernel_rfl) (by kernel_rfl) (by kernel_rfl) (fun j => [.bool false, .bool false, undef, undef, undef, undef, .bool false, .bool false, undef, undef, undef, undef, .bool false, .bool false].getD j undef) X (Below.drew (Below.refl _ _)) ?step ⟨#[.slice p pn cap, .agg #[.slice ps 0 cs, .int .i64 n1, .int .i64 2, .int .i64 n3, .int .i64 0, .int .i64 0, .int .i64 0], undef, .pointer (some ⟨x0.heap.size, 0, none⟩), .bool false, .bool false, .bool true, .pointer (some ⟨x0.heap.size, 0, none⟩), .slice ps 0 cs, .int .i64 0, .bool false, .bool false, undef, undef, undef, .bool false, .pointer (some ⟨x0.heap.size, 4, none⟩), .agg #[.int .i64 0, .int .i64 0, .int .i64 0], .agg #[.int .i64 0, .int .i64 0, .int .i64 0], .bool true, .pointer (some ⟨x0.heap.size, 2, none⟩), .int .i64 2, .bool false, .bool false, undef, undef, undef, undef, .bool false, .bool false, undef, undef, undef, undef, undef, undef, undef, undef, undef, undef, undef, undef, .bool true, .bool true, .bool false, .bool false, undef, undef, undef, undef, .bool false, .bool false, undef, undef, undef, undef, .bool false, undef, undef, undef, undef, undef, undef, undef, undef, undef, undef, undef, undef], []⟩ (by kernel_rfl) ?fin
    case step =>
      intro i o ho ρ y x hBx hdep hout
      rcases i with _ | i
      · obtain rfl := Option.some.inj ho
        have o5 : ρ (.tmp 5) = .bool false := hout (.tmp 5) rfl
        have ocn : ∀ v, ρ (.const v) = v := fun v => hout (.const v) rfl
        have ofn : ∀ f, ρ (.func f) = .func (.func f) #[] #[] := fun f => hout (.func f) rfl
        clear hdep hout
        refine .inl ⟨?_, ?_⟩
        · rfl
        show Gives _ _ _ (.bool false) _
        refine Gives.val ?_
        go_simp
      rcases i with _ | i
      · obtain rfl := Option.some.inj ho
        have e0 : ρ (.tmp 44) = .bool false := (hdep ⟨0, .data⟩ (by simp) rfl).1 44 rfl
        have ocn : ∀ v, ρ (.const v) = v := fun v => hout (.const v) rfl
        have ofn : ∀ f, ρ (.func f) = .func (.func f) #[] #[] := fun f => hout (.func f) rfl
        clear hdep hout
        refine .inl ⟨?_, ?_⟩
        · rfl
        show Gives _ _ _ (.bool false) _
        refine Gives.val ?_
        go_simp
      rcases i with _ | i
      · obtain rfl := Option.some.inj ho
        have o0 : ρ (.tmp 0) = .slice p pn cap := hout (.tmp 0) rfl
        have yg : y 1 = some false := (hdep ⟨1, .guard⟩ (by simp) rfl).2 45 rfl
        have ocn : ∀ v, ρ (.const v) = v := fun v => hout (.const v) rfl
        have ofn : ∀ f, ρ (.func f) = .func (.func f) #[] #[] := fun f => hout (.func f) rfl
        clear hdep hout
        refine .inr ⟨?_, rfl⟩
        show (y 1 == some true) = false
        rw [yg]; rfl
      rcases i with _ | i
      · obtain rfl := Option.some.inj ho
        have o3 : ρ (.tmp 3) = .pointer (some ⟨x0.heap.size, 0, none⟩) := hout (.tmp 3) rfl
        have yg : y 1 = some false := (hdep ⟨1, .guard⟩ (by simp) rfl).2 45 rfl
        have ocn : ∀ v, ρ (.const v) = v := fun v => hout (.const v) rfl
        have ofn : ∀ f, ρ (.func f) = .func (.func f) #[] #[] := fun f => hout (.func f) rfl
        clear hdep hout
        refine .inr ⟨?_, rfl⟩
        show (y 1 == some true) = false
        rw [yg]; rfl
      rcases i with _ | i
      · obtain rfl := Option.some.inj ho
        have e3 : ρ (.tmp 47) = undef := (hdep ⟨3, .data⟩ (by simp) rfl).1 47 rfl
        have yg : y 1 = some false := (hdep ⟨1, .guard⟩ (by simp) rfl).2 45 rfl
        have ocn : ∀ v, ρ (.const v) = v := fun v => hout (.const v) rfl
        have ofn : ∀ f, ρ (.func f) = .func (.func f) #[] #[] := fun f => hout (.func f) rfl
        clear hdep hout
        refine .inr ⟨?_, rfl⟩
        show (y 1 == some true) = false
        rw [yg]; rfl
      rcases i with _ | i
      · obtain rfl := Option.some.inj ho
        have e2 : ρ (.tmp 46) = undef := (hdep ⟨2, .data⟩ (by simp) rfl).1 46 rfl
        have e4 : ρ (.tmp 48) = undef := (hdep ⟨4, .data⟩ (by simp) rfl).1 48 rfl
        have yg : y 1 = some false := (hdep ⟨1, .guard⟩ (by simp) rfl).2 45 rfl
        have ocn : ∀ v, ρ (.const v) = v := fun v => hout (.const v) rfl
        have ofn : ∀ f, ρ (.func f) = .func (.func f) #[] #[] := fun f => hout (.func f) rfl
        clear hdep hout
        refine .inr ⟨?_, rfl⟩
        show (y 1 == some true) = false
        rw [yg]; rfl
      rcases i with _ | i
      · obtain rfl := Option.some.inj ho
        have e1 : ρ (.tmp 45) = .bool false := (hdep ⟨1, .data⟩ (by simp) rfl).1 45 rfl
        have e5 : ρ (.tmp 49) = undef := (hdep ⟨5, .data⟩ (by simp) rfl).1 49 rfl
        have ocn : ∀ v, ρ (.const v) = v := fun v => hout (.const v) rfl
        have ofn : ∀ f, ρ (.func f) = .func (.func f) #[] #[] := fun f => hout (.func f) rfl
        clear hdep hout
        refine .inl ⟨?_, ?_⟩
        · rfl
        show Gives _ _ _ (.bool false) _
        refine Gives.val ?_
        go_simp
      rcases i with _ | i
      · obtain rfl := Option.some.inj ho
        have e6 : ρ (.tmp 50) = .bool false := (hdep ⟨6, .data⟩ (by simp) rfl).1 50 rfl
        have ocn : ∀ v, ρ (.const v) = v := fun v => hout (.const v) rfl
        have ofn : ∀ f, ρ (.func f) = .func (.func f) #[] #[] := fun f => hout (.func f) rfl
        clear hdep hout
        refine .inl ⟨?_, ?_⟩
        · rfl
        show Gives _ _ _ (.bool false) _
        refine Gives.val ?_
        go_simp
      rcases i with _ | i
      · obtain rfl := Option.some.inj ho
        have o3 : ρ (.tmp 3) = .pointer (some ⟨x0.heap.size, 0, none⟩) := hout (.tmp 3) rfl
        have yg : y 7 = some false := (hdep ⟨7, .guard⟩ (by simp) rfl).2 51 rfl
        have ocn : ∀ v, ρ (.const v) = v := fun v => hout (.const v) rfl
        have ofn : ∀ f, ρ (.func f) = .func (.func f) #[] #[] := fun f => hout (.func f) rfl
        clear hdep hout
        refine .inr ⟨?_, rfl⟩
        show (y 7 == some true) = false
        rw [yg]; rfl
      rcases i with _ | i
      · obtain rfl := Option.some.inj ho
        have e8 : ρ (.tmp 52) = undef := (hdep ⟨8, .data⟩ (by simp) rfl).1 52 rfl
        have yg : y 7 = some false := (hdep ⟨7, .guard⟩ (by simp) rfl).2 51 rfl
        have ocn : ∀ v, ρ (.const v) = v := fun v => hout (.const v) rfl
        have ofn : ∀ f, ρ (.func f) = .func (.func f) #[] #[] := fun f => hout (.func f) rfl
        clear hdep hout
        refine .inr ⟨?_, rfl⟩
        show (y 7 == some true) = false
        rw [yg]; rfl
      rcases i with _ | i
      · obtain rfl := Option.some.inj ho
        have o3 : ρ (.tmp 3) = .pointer (some ⟨x0.heap.size, 0, none⟩) := hout (.tmp 3) rfl
        have yg : y 7 = some false := (hdep ⟨7, .guard⟩ (by simp) rfl).2 51 rfl
        have ocn : ∀ v, ρ (.const v) = v := fun v => hout (.const v) rfl
        have ofn : ∀ f, ρ (.func f) = .func (.func f) #[] #[] := fun f => hout (.func f) rfl
        clear hdep hout
        refine .inr ⟨?_, rfl⟩
        show (y 7 == some true) = false
        rw [yg]; rfl
      rcases i with _ | i
      · obtain rfl := Option.some.inj ho
        have e9 : ρ (.tmp 53) = undef := (hdep ⟨9, .data⟩ (by simp) rfl).1 53 rfl
        have e10 : ρ (.tmp 54) = undef := (hdep ⟨10, .data⟩ (by simp) rfl).1 54 rfl
        have yg : y 7 = some false := (hdep ⟨7, .guard⟩ (by simp) rfl).2 51 rfl
        have ocn : ∀ v, ρ (.const v) = v := fun v => hout (.const v) rfl
        have ofn : ∀ f, ρ (.func f) = .func (.func f) #[] #[] := fun f => hout (.func f) rfl
        clear hdep hout
        refine .inr ⟨?_, rfl⟩
        show (y 7 == some true) = false
        rw [yg]; rfl
      rcases i with _ | i
      · obtain rfl := Option.some.inj ho
        have e7 : ρ (.tmp 51) = .bool false := (hdep ⟨7, .data⟩ (by simp) rfl).1 51 rfl
        have e11 : ρ (.tmp 55) = undef := (hdep ⟨11, .data⟩ (by simp) rfl).1 55 rfl
        have ocn : ∀ v, ρ (.const v) = v := fun v => hout (.const v) rfl
        have ofn : ∀ f, ρ (.func f) = .func (.func f) #[] #[] := fun f => hout (.func f) rfl
        clear hdep hout
        refine .inl ⟨?_, ?_⟩
        · rfl
        show Gives _ _ _ (.bool false) _
        refine Gives.val ?_
        go_simp
      rcases i with _ | i
      · obtain rfl := Option.some.inj ho
        have e12 : ρ (.tmp 56) = .bool false := (hdep ⟨12, .data⟩ (by simp) rfl).1 56 rfl
        have ocn : ∀ v, ρ (.const v) = v := fun v => hout (.const v) rfl
        have ofn : ∀ f, ρ (.func f) = .func (.func f) #[] #[] := fun f => hout (.func f) rfl
        clear hdep hout
        refine .inl ⟨?_, ?_⟩
        · rfl
        show Gives _ _ _ (.bool false) _
        refine Gives.val ?_
        go_simp
      cases ho
    case fin =>
      intro x hBx
      have hBf := HAl.out.trans (hBx.mono HAl.out.size)
      go_wp2_with fail
      go_ret
      exact ⟨retBool (by have hfl := HFN.out.1; first | (simp [endF, noSite, HFN.out.1]; done) | (simp [endF, noSite, HFN.out.1]; intros; omega) | (simp_all [endF, noSite]; done) | (simp_all [endF, noSite] <;> omega)), hBf⟩
  · by_cases e1 : n2 = 1
    · subst e1
      go_enter Try.func77, Try.ntmps77
      go_wp2_with fail
      refine (isWord_e n3 _).mono ?_
      rintro e z ⟨rfl, rfl⟩
      cases hw : inI n3 (-16) 15
      all_goals
        go_wp2_with fail
        go_ret
        exact ⟨retBool (by have hfl := HFN.out.1; first | (simp [endF, noSite, HFN.out.1, wdF, hw]; done) | (simp [endF, noSite, HFN.out.1, wdF, hw]; intros; omega) | (simp_all [endF, noSite]; done) | (simp_all [endF, noSite] <;> omega)), by first | exact (Below.refl _ _).alloc (Nat.le_refl _) _ | go_grown⟩
    · go_enter Try.func77, Try.ntmps77
      go_wp2_with fail
      all_goals
        go_ret
        exact ⟨retBool (by have hfl := HFN.out.1; first | (simp [endF, noSite, HFN.out.1, e1, e2, *]; done) | (simp [endF, noSite, HFN.out.1, e1, e2, *]; intros; omega) | (simp_all [endF, noSite]; done) | (simp_all [endF, noSite] <;> omega)), by first | exact (Below.refl _ _).alloc (Nat.le_refl _) _ | go_grown⟩

set_option maxRecDepth 100000 in
set_option maxHeartbeats 8000000 in
theorem endOk_S3G1 (x0 : World) (B : Nat) (v : Value) (P : List (List I4)) (h : ProgAt x0 B v P) (hok : progOkF P = true) (s : Value) (F : List Fr) (hF : FrsAt x0 s F) (hl5 : F.length ≤ 5) (n1 n2 n3 n4 n5 n6 : Int) (hs0 : n4 = 0) (hs1 : n5 = 0) (hs2 : n6 = 0) (hg : 0 < F.length) (ho : ¬ n3 = 0) :
    Calls Try.prog 77 #[v, aggRun s (n1, n2, n3, n4, n5, n6)] x0 fun e y => e = .returned (.bool (endF P F n2 n3 (n4, n5, n6))) ∧ Below x0.heap.size x0 y := by
  obtain ⟨p, cap, rfl, _⟩ := h.shape
  obtain ⟨ps, cs, rfl, _⟩ := hF.shape
  unfold aggRun
  dsimp only
  have H : Hid (ProgAt x0 B (.slice p P.length cap) P) := h
  have HOK : Hid (progOkF P = true) := hok
  have HS : Hid (FrsAt x0 (.slice ps F.length cs) F) := hF
  have hl := progOkF_len hok
  have hn4 : (P.length : Int) ≤ 4 := by omega
  have hf5 : (F.length : Int) ≤ 5 := by omega
  clear h hok hF hl
  subst hs0
  subst hs1
  subst hs2
  have hob : (n3 == 0) = false := by simpa using ho
  generalize hfn : F.length = fn at *
  generalize hpn : P.length = pn at *
  have HFN : Hid (F.length = fn ∧ P.length = pn) := ⟨hfn, hpn⟩
  clear hfn hpn
  have hgi : (0 : Int) < (fn : Int) := by omega
  by_cases e2 : n2 = 2
  · subst e2
    have HAl : Hid (Below x0.heap.size x0 (x0.alloc (.cells #[.slice ps fn cs, .int .i64 n1, .int .i64 2, .int .i64 n3, .int .i64 0, .int .i64 0, .int .i64 0] 56))) := (Below.refl _ _).alloc (Nat.le_refl _) _
    have K00 : Hid (BxN (x0.alloc (.cells #[.slice ps fn cs, .int .i64 n1, .int .i64 2, .int .i64 n3, .int .i64 0, .int .i64 0, .int .i64 0] 56)) x0.heap.size [.slice ps fn cs, .int .i64 n1, .int .i64 2, .int .i64 n3, .int .i64 0, .int .i64 0, .int .i64 0]) := BxN.new x0 [_, _, _, _, _, _, _] _
    go_enter Try.func77, Try.ntmps77
    go_wp2_with fail
    generalize x0.alloc (.cells #[.slice ps fn cs, .int .i64 n1, .int .i64 2, .int .i64 n3, .int .i64 0, .int .i64 0, .int .i64 0] 56) = X at HAl K00 ⊢
    refine wp_region_vals (by kernel_rfl) (by kernel_rfl) (by kernel_rfl) (by kernel_rfl) (fun j => [.bool false, .bool false, undef, undef, undef, undef, .bool false, .bool false, undef, undef, undef, undef, .bool false, .bool false].getD j undef) X (Below.drew (Below.refl _ _)) ?step ⟨#[.slice p pn cap, .agg #[.slice ps fn cs, .int .i64 n1, .int .i64 2, .int .i64 n3, .int .i64 0, .int .i64 0, .int .i64 0], undef, .pointer (some ⟨x0.heap.size, 0, none⟩), .bool false, .bool false, .bool true, .pointer (some ⟨x0.heap.size, 0, none⟩), .slice ps fn cs, .int .i64 ↑fn, .bool true, .bool true, .pointer (some ⟨x0.heap.size, 3, none⟩), .int .i64 n3, .bool false, .bool false, .pointer (some ⟨x0.heap.size, 4, none⟩), .agg #[.int .i64 0, .int .i64 0, .int .i64 0], .agg #[.int .i64 0, .int .i64 0, .int .i64 0], .bool true, .pointer (some ⟨x0.heap.size, 2, none⟩), .int .i64 2, .bool false, .bool false, undef, undef, undef, undef, .bool false, .bool false, undef, undef, undef, undef, undef, undef, undef, undef, undef, undef, undef, undef, .bool true, .bool true, .bool false, .bool false, undef, undef, undef, undef, .bool false, .bool false, undef, undef, undef, undef, .bool false, undef, undef, undef, undef, undef, undef, undef, undef, undef, undef, undef, undef], []⟩ (by kernel_rfl) ?fin
    case step =>
      intro i o ho ρ y x hBx hdep hout
      rcases i with _ | i
      · obtain rfl := Option.some.inj ho
        have o5 : ρ (.tmp 5) = .bool false := hout (.tmp 5) rfl
        have ocn : ∀ v, ρ (.const v) = v := fun v => hout (.const v) rfl
        have ofn : ∀ f, ρ (.func f) = .func (.func f) #[] #[] := fun f => hout (.func f) rfl
        clear hdep hout
        refine .inl ⟨?_, ?_⟩
        · rfl
        show Gives _ _ _ (.bool false) _
        refine Gives.val ?_
        go_simp
      rcases i with _ | i
      · obtain rfl := Option.some.inj ho
        have e0 : ρ (.tmp 44) = .bool false := (hdep ⟨0, .data⟩ (by simp) rfl).1 44 rfl
        have ocn : ∀ v, ρ (.const v) = v := fun v => hout (.const v) rfl
        have ofn : ∀ f, ρ (.func f) = .func (.func f) #[] #[] := fun f => hout (.func f) rfl
        clear hdep hout
        refine .inl ⟨?_, ?_⟩
        · rfl
        show Gives _ _ _ (.bool false) _
        refine Gives.val ?_
        go_simp
      rcases i with _ | i
      · obtain rfl := Option.some.inj ho
        have o0 : ρ (.tmp 0) = .slice p pn cap := hout (.tmp 0) rfl
        have yg : y 1 = some false := (hdep ⟨1, .guard⟩ (by simp) rfl).2 45 rfl
        have ocn : ∀ v, ρ (.const v) = v := fun v => hout (.const v) rfl
        have ofn : ∀ f, ρ (.func f) = .func (.func f) #[] #[] := fun f => hout (.func f) rfl
        clear hdep hout
        refine .inr ⟨?_, rfl⟩
        show (y 1 == some true) = false
        rw [yg]; rfl
      rcases i with _ | i
      · obtain rfl := Option.some.inj ho
        have o3 : ρ (.tmp 3) = .pointer (some ⟨x0.heap.size, 0, none⟩) := hout (.tmp 3) rfl
        have yg : y 1 = some false := (hdep ⟨1, .guard⟩ (by simp) rfl).2 45 rfl
        have ocn : ∀ v, ρ (.const v) = v := fun v => hout (.const v) rfl
        have ofn : ∀ f, ρ (.func f) = .func (.func f) #[] #[] := fun f => hout (.func f) rfl
        clear hdep hout
        refine .inr ⟨?_, rfl⟩
        show (y 1 == some true) = false
        rw [yg]; rfl
      rcases i with _ | i
      · obtain rfl := Option.some.inj ho
        have e3 : ρ (.tmp 47) = undef := (hdep ⟨3, .data⟩ (by simp) rfl).1 47 rfl
        have yg : y 1 = some false := (hdep ⟨1, .guard⟩ (by simp) rfl).2 45 rfl
        have ocn : ∀ v, ρ (.const v) = v := fun v => hout (.const v) rfl
        have ofn : ∀ f, ρ (.func f) = .func (.func f) #[] #[] := fun f => hout (.func f) rfl
        clear hdep hout
        refine .inr ⟨?_, rfl⟩
        show (y 1 == some true) = false
        rw [yg]; rfl
      rcases i with _ | i
      · obtain rfl := Option.some.inj ho
        have e2 : ρ (.tmp 46) = undef := (hdep ⟨2, .data⟩ (by simp) rfl).1 46 rfl
        have e4 : ρ (.tmp 48) = undef := (hdep ⟨4, .data⟩ (by simp) rfl).1 48 rfl
        have yg : y 1 = some false := (hdep ⟨1, .guard⟩ (by simp) rfl).2 45 rfl
        have ocn : ∀ v, ρ (.const v) = v := fun v => hout (.const v) rfl
        have ofn : ∀ f, ρ (.func f) = .func (.func f) #[] #[] := fun f => hout (.func f) rfl
        clear hdep hout
        refine .inr ⟨?_, rfl⟩
        show (y 1 == some true) = false
        rw [yg]; rfl
      rcases i with _ | i
      · obtain rfl := Option.some.inj ho
        have e1 : ρ (.tmp 45) = .bool false := (hdep ⟨1, .data⟩ (by simp) rfl).1 45 rfl
        have e5 : ρ (.tmp 49) = undef := (hdep ⟨5, .data⟩ (by simp) rfl).1 49 rfl
        have ocn : ∀ v, ρ (.const v) = v := fun v => hout (.const v) rfl
        have ofn : ∀ f, ρ (.func f) = .func (.func f) #[] #[] := fun f => hout (.func f) rfl
        clear hdep hout
        refine .inl ⟨?_, ?_⟩
        · rfl
        show Gives _ _ _ (.bool false) _
        refine Gives.val ?_
        go_simp
      rcases i with _ | i
      · obtain rfl := Option.some.inj ho
        have e6 : ρ (.tmp 50) = .bool false := (hdep ⟨6, .data⟩ (by simp) rfl).1 50 rfl
        have ocn : ∀ v, ρ (.const v) = v := fun v => hout (.const v) rfl
        have ofn : ∀ f, ρ (.func f) = .func (.func f) #[] #[] := fun f => hout (.func f) rfl
        clear hdep hout
        refine .inl ⟨?_, ?_⟩
        · rfl
        show Gives _ _ _ (.bool false) _
        refine Gives.val ?_
        go_simp
      rcases i with _ | i
      · obtain rfl := Option.some.inj ho
        have o3 : ρ (.tmp 3) = .pointer (some ⟨x0.heap.size, 0, none⟩) := hout (.tmp 3) rfl
        have yg : y 7 = some false := (hdep ⟨7, .guard⟩ (by simp) rfl).2 51 rfl
        have ocn : ∀ v, ρ (.const v) = v := fun v => hout (.const v) rfl
        have ofn : ∀ f, ρ (.func f) = .func (.func f) #[] #[] := fun f => hout (.func f) rfl
        clear hdep hout
        refine .inr ⟨?_, rfl⟩
        show (y 7 == some true) = false
        rw [yg]; rfl
      rcases i with _ | i
      · obtain rfl := Option.some.inj ho
        have e8 : ρ (.tmp 52) = undef := (hdep ⟨8, .data⟩ (by simp) rfl).1 52 rfl
        have yg : y 7 = some false := (hdep ⟨7, .guard⟩ (by simp) rfl).2 51 rfl
        have ocn : ∀ v, ρ (.const v) = v := fun v => hout (.const v) rfl
        have ofn : ∀ f, ρ (.func f) = .func (.func f) #[] #[] := fun f => hout (.func f) rfl
        clear hdep hout
        refine .inr ⟨?_, rfl⟩
        show (y 7 == some true) = false
        rw [yg]; rfl
      rcases i with _ | i
      · obtain rfl := Option.some.inj ho
        have o3 : ρ (.tmp 3) = .pointer (some ⟨x0.heap.size, 0, none⟩) := hout (.tmp 3) rfl
        have yg : y 7 = some false := (hdep ⟨7, .guard⟩ (by simp) rfl).2 51 rfl
        have ocn : ∀ v, ρ (.const v) = v := fun v => hout (.const v) rfl
        have ofn : ∀ f, ρ (.func f) = .func (.func f) #[] #[] := fun f => hout (.func f) rfl
        clear hdep hout
        refine .inr ⟨?_, rfl⟩
        show (y 7 == some true) = false
        rw [yg]; rfl
      rcases i with _ | i
      · obtain rfl := Option.some.inj ho
        have e9 : ρ (.tmp 53) = undef := (hdep ⟨9, .data⟩ (by simp) rfl).1 53 rfl
        have e10 : ρ (.tmp 54) = undef := (hdep ⟨10, .data⟩ (by simp) rfl).1 54 rfl
        have yg : y 7 = some false := (hdep ⟨7, .guard⟩ (by simp) rfl).2 51 rfl
        have ocn : ∀ v, ρ (.const v) = v := fun v => hout (.const v) rfl
        have ofn : ∀ f, ρ (.func f) = .func (.func f) #[] #[] := fun f => hout (.func f) rfl
        clear hdep hout
        refine .inr ⟨?_, rfl⟩
        show (y 7 == some true) = false
        rw [yg]; rfl
      rcases i with _ | i
      · obtain rfl := Option.some.inj ho
        have e7 : ρ (.tmp 51) = .bool false := (hdep ⟨7, .data⟩ (by simp) rfl).1 51 rfl
        have e11 : ρ (.tmp 55) = undef := (hdep ⟨11, .data⟩ (by simp) rfl).1 55 rfl
        have ocn : ∀ v, ρ (.const v) = v := fun v => hout (.const v) rfl
        have ofn : ∀ f, ρ (.func f) = .func (.func f) #[] #[] := fun f => hout (.func f) rfl
        clear hdep hout
        refine .inl ⟨?_, ?_⟩
        · rfl
        show Gives _ _ _ (.bool false) _
        refine Gives.val ?_
        go_simp
      rcases i with _ | i
      · obtain rfl := Option.some.inj ho
        have e12 : ρ (.tmp 56) = .bool false := (hdep ⟨12, .data⟩ (by simp) rfl).1 56 rfl
        have ocn : ∀ v, ρ (.const v) = v := fun v => hout (.const v) rfl
        have ofn : ∀ f, ρ (.func f) = .func (.func f) #[] #[] := fun f => hout (.func f) rfl
        clear hdep hout
        refine .inl ⟨?_, ?_⟩
        · rfl
        show Gives _ _ _ (.bool false) _
        refine Gives.val ?_
        go_simp
      cases ho
    case fin =>
      intro x hBx
      have hBf := HAl.out.trans (hBx.mono HAl.out.size)
      go_wp2_with fail
      go_ret
      exact ⟨retBool (by have hfl := HFN.out.1; first | (simp [endF, noSite, HFN.out.1, ho]; done) | (simp [endF, noSite, HFN.out.1, ho]; intros; omega) | (simp_all [endF, noSite]; done) | (simp_all [endF, noSite] <;> omega)), hBf⟩
  · by_cases e1 : n2 = 1
    · subst e1
      go_enter Try.func77, Try.ntmps77
      go_wp2_with fail
      go_ret
      exact ⟨retBool (by have hfl := HFN.out.1; first | (simp [endF, noSite, HFN.out.1, ho]; done) | (simp [endF, noSite, HFN.out.1, ho]; intros; omega) | (simp_all [endF, noSite]; done) | (simp_all [endF, noSite] <;> omega)), by first | exact (Below.refl _ _).alloc (Nat.le_refl _) _ | go_grown⟩
    · go_enter Try.func77, Try.ntmps77
      go_wp2_with fail
      all_goals
        go_ret
        exact ⟨retBool (by have hfl := HFN.out.1; first | (simp [endF, noSite, HFN.out.1, ho, e1, e2, *]; done) | (simp [endF, noSite, HFN.out.1, ho, e1, e2, *]; intros; omega) | (simp_all [endF, noSite]; done) | (simp_all [endF, noSite] <;> omega)), by first | exact (Below.refl _ _).alloc (Nat.le_refl _) _ | go_grown⟩

set_option maxRecDepth 100000 in
set_option maxHeartbeats 8000000 in
theorem endOk_S3G2 (x0 : World) (B : Nat) (v : Value) (P : List (List I4)) (h : ProgAt x0 B v P) (hok : progOkF P = true) (s : Value) (F : List Fr) (hF : FrsAt x0 s F) (hl5 : F.length ≤ 5) (n1 n2 n3 n4 n5 n6 : Int) (hs0 : n4 = 0) (hs1 : n5 = 0) (hs2 : n6 = 0) (hg : 0 < F.length) (ho : n3 = 0) :
    Calls Try.prog 77 #[v, aggRun s (n1, n2, n3, n4, n5, n6)] x0 fun e y => e = .returned (.bool (endF P F n2 n3 (n4, n5, n6))) ∧ Below x0.heap.size x0 y := by
  obtain ⟨p, cap, rfl, _⟩ := h.shape
  obtain ⟨ps, cs, rfl, _⟩ := hF.shape
  unfold aggRun
  dsimp only
  have H : Hid (ProgAt x0 B (.slice p P.length cap) P) := h
  have HOK : Hid (progOkF P = true) := hok
  have HS : Hid (FrsAt x0 (.slice ps F.length cs) F) := hF
  have hl := progOkF_len hok
  have hn4 : (P.length : Int) ≤ 4 := by omega
  have hf5 : (F.length : Int) ≤ 5 := by omega
  clear h hok hF hl
  subst hs0
  subst hs1
  subst hs2
  subst ho
  generalize hfn : F.length = fn at *
  generalize hpn : P.length = pn at *
  have HFN : Hid (F.length = fn ∧ P.length = pn) := ⟨hfn, hpn⟩
  clear hfn hpn
  have hgi : (0 : Int) < (fn : Int) := by omega
  by_cases e2 : n2 = 2
  · subst e2
    have HAl : Hid (Below x0.heap.size x0 (x0.alloc (.cells #[.slice ps fn cs, .int .i64 n1, .int .i64 2, .int .i64 0, .int .i64 0, .int .i64 0, .int .i64 0] 56))) := (Below.refl _ _).alloc (Nat.le_refl _) _
    have K00 : Hid (BxN (x0.alloc (.cells #[.slice ps fn cs, .int .i64 n1, .int .i64 2, .int .i64 0, .int .i64 0, .int .i64 0, .int .i64 0] 56)) x0.heap.size [.slice ps fn cs, .int .i64 n1, .int .i64 2, .int .i64 0, .int .i64 0, .int .i64 0, .int .i64 0]) := BxN.new x0 [_, _, _, _, _, _, _] _
    go_enter Try.func77, Try.ntmps77
    go_wp2_with fail
    generalize x0.alloc (.cells #[.slice ps fn cs, .int .i64 n1, .int .i64 2, .int .i64 0, .int .i64 0, .int .i64 0, .int .i64 0] 56) = X at HAl K00 ⊢
    cases hso : siteOkF P (0, 0, 0)
    · skip
      have HSO : Hid (∀ z : World, Below x0.heap.size x0 z → Calls Try.prog 111 #[.slice p pn cap, .agg #[.int .i64 0, .int .i64 0, .int .i64 0]] z fun e y => e = .returned (.bool false) ∧ Below z.heap.size z y) := fun z hz => by
        have := siteOk_any z B (.slice p pn cap) P (H.out.later hz) HOK.out (0, 0, 0)
        rw [hso] at this; exact this
      refine wp_region_vals (by kernel_rfl) (by kernel_rfl) (by kernel_rfl) (by kernel_rfl) (fun j => [.bool true, .bool true, .slice p pn cap, .pointer (some ⟨x0.heap.size, 4, none⟩), .agg #[.int .i64 0, .int .i64 0, .int .i64 0], .bool false, .bool false, .bool false, undef, undef, undef, undef, .bool false, .bool false].getD j undef) X (Below.drew (Below.refl _ _)) ?step ⟨#[.slice p pn cap, .agg #[.slice ps fn cs, .int .i64 n1, .int .i64 2, .int .i64 0, .int .i64 0, .int .i64 0, .int .i64 0], undef, .pointer (some ⟨x0.heap.size, 0, none⟩), .bool false, .bool true, .bool true, .pointer (some ⟨x0.heap.size, 0, none⟩), .slice ps fn cs, .int .i64 ↑fn, .bool true, .bool true, .pointer (some ⟨x0.heap.size, 3, none⟩), .int .i64 0, .bool true, .bool true, .pointer (some ⟨x0.heap.size, 4, none⟩), .agg #[.int .i64 0, .int .i64 0, .int .i64 0], .agg #[.int .i64 0, .int .i64 0, .int .i64 0], .bool true, .pointer (some ⟨x0.heap.size, 2, none⟩), .int .i64 2, .bool false, .bool false, undef, undef, undef, undef, .bool false, .bool false, undef, undef, undef, undef, undef, undef, undef, undef, undef, undef, undef, undef, .bool true, .bool true, .bool true, .bool true, .slice p pn cap, .pointer (some ⟨x0.heap.size, 4, none⟩), .agg #[.int .i64 0, .int .i64 0, .int .i64 0], .bool false, .bool false, .bool false, undef, undef, undef, undef, .bool false, undef, undef, undef, undef, undef, undef, undef, undef, undef, undef, undef, undef], []⟩ (by kernel_rfl) ?fin
      case step =>
        intro i o ho ρ y x hBx hdep hout
        rcases i with _ | i
        · obtain rfl := Option.some.inj ho
          have o5 : ρ (.tmp 5) = .bool true := hout (.tmp 5) rfl
          have ocn : ∀ v, ρ (.const v) = v := fun v => hout (.const v) rfl
          have ofn : ∀ f, ρ (.func f) = .func (.func f) #[] #[] := fun f => hout (.func f) rfl
          clear hdep hout
          refine .inl ⟨?_, ?_⟩
          · rfl
          show Gives _ _ _ (.bool true) _
          refine Gives.val ?_
          go_simp
        rcases i with _ | i
        · obtain rfl := Option.some.inj ho
          have e0 : ρ (.tmp 44) = .bool true := (hdep ⟨0, .data⟩ (by simp) rfl).1 44 rfl
          have ocn : ∀ v, ρ (.const v) = v := fun v => hout (.const v) rfl
          have ofn : ∀ f, ρ (.func f) = .func (.func f) #[] #[] := fun f => hout (.func f) rfl
          clear hdep hout
          refine .inl ⟨?_, ?_⟩
          · rfl
          show Gives _ _ _ (.bool true) _
          refine Gives.val ?_
          go_simp
        rcases i with _ | i
        · obtain rfl := Option.some.inj ho
          have o0 : ρ (.tmp 0) = .slice p pn cap := hout (.tmp 0) rfl
          have yg : y 1 = some true := (hdep ⟨1, .guard⟩ (by simp) rfl).2 45 rfl
          have ocn : ∀ v, ρ (.const v) = v := fun v => hout (.const v) rfl
          have ofn : ∀ f, ρ (.func f) = .func (.func f) #[] #[] := fun f => hout (.func f) rfl
          clear hdep hout
          refine .inl ⟨?_, ?_⟩
          · show (y 1 == some true) = true
            rw [yg]; rfl
          show Gives _ _ _ (.slice p pn cap) _
          refine Gives.val ?_
          go_simp
        rcases i with _ | i
        · obtain rfl := Option.some.inj ho
          have o3 : ρ (.tmp 3) = .pointer (some ⟨x0.heap.size, 0, none⟩) := hout (.tmp 3) rfl
          have yg : y 1 = some true := (hdep ⟨1, .guard⟩ (by simp) rfl).2 45 rfl
          have ocn : ∀ v, ρ (.const v) = v := fun v => hout (.const v) rfl
          have ofn : ∀ f, ρ (.func f) = .func (.func f) #[] #[] := fun f => hout (.func f) rfl
          clear hdep hout
          refine .inl ⟨?_, ?_⟩
          · show (y 1 == some true) = true
            rw [yg]; rfl
          show Gives _ _ _ (.pointer (some ⟨x0.heap.size, 4, none⟩)) _
          refine Gives.val ?_
          go_simp
        rcases i with _ | i
        · obtain rfl := Option.some.inj ho
          have e3 : ρ (.tmp 47) = .pointer (some ⟨x0.heap.size, 4, none⟩) := (hdep ⟨3, .data⟩ (by simp) rfl).1 47 rfl
          have yg : y 1 = some true := (hdep ⟨1, .guard⟩ (by simp) rfl).2 45 rfl
          have ocn : ∀ v, ρ (.const v) = v := fun v => hout (.const v) rfl
          have ofn : ∀ f, ρ (.func f) = .func (.func f) #[] #[] := fun f => hout (.func f) rfl
          clear hdep hout
          refine .inl ⟨?_, ?_⟩
          · show (y 1 == some true) = true
            rw [yg]; rfl
          have kb := K00.out.later hBx
          have c0 := kb.c 0 _ rfl
          have c3 := kb.c 3 _ rfl
          have c4 := kb.c 4 _ rfl
          have c5 := kb.c 5 _ rfl
          have c6 := kb.c 6 _ rfl
          have cl0 := kb.lt
          show Gives _ _ _ (.agg #[.int .i64 0, .int .i64 0, .int .i64 0]) _
          refine Gives.val ?_
          go_simp
        rcases i with _ | i
        · obtain rfl := Option.some.inj ho
          have e2 : ρ (.tmp 46) = .slice p pn cap := (hdep ⟨2, .data⟩ (by simp) rfl).1 46 rfl
          have e4 : ρ (.tmp 48) = .agg #[.int .i64 0, .int .i64 0, .int .i64 0] := (hdep ⟨4, .data⟩ (by simp) rfl).1 48 rfl
          have yg : y 1 = some true := (hdep ⟨1, .guard⟩ (by simp) rfl).2 45 rfl
          have ocn : ∀ v, ρ (.const v) = v := fun v => hout (.const v) rfl
          have ofn : ∀ f, ρ (.func f) = .func (.func f) #[] #[] := fun f => hout (.func f) rfl
          clear hdep hout
          refine .inl ⟨?_, ?_⟩
          · show (y 1 == some true) = true
            rw [yg]; rfl
          show Gives _ _ _ (.bool false) _
          refine Gives.call (HSO.out x (HAl.out.trans (hBx.mono HAl.out.size))) ?_
          go_simp
        rcases i with _ | i
        · obtain rfl := Option.some.inj ho
          have e1 : ρ (.tmp 45) = .bool true := (hdep ⟨1, .data⟩ (by simp) rfl).1 45 rfl
          have e5 : ρ (.tmp 49) = .bool false := (hdep ⟨5, .data⟩ (by simp) rfl).1 49 rfl
          have ocn : ∀ v, ρ (.const v) = v := fun v => hout (.const v) rfl
          have ofn : ∀ f, ρ (.func f) = .func (.func f) #[] #[] := fun f => hout (.func f) rfl
          clear hdep hout
          refine .inl ⟨?_, ?_⟩
          · rfl
          show Gives _ _ _ (.bool false) _
          refine Gives.val ?_
          go_simp
        rcases i with _ | i
        · obtain rfl := Option.some.inj ho
          have e6 : ρ (.tmp 50) = .bool false := (hdep ⟨6, .data⟩ (by simp) rfl).1 50 rfl
          have ocn : ∀ v, ρ (.const v) = v := fun v => hout (.const v) rfl
          have ofn : ∀ f, ρ (.func f) = .func (.func f) #[] #[] := fun f => hout (.func f) rfl
          clear hdep hout
          refine .inl ⟨?_, ?_⟩
          · rfl
          show Gives _ _ _ (.bool false) _
          refine Gives.val ?_
          go_simp
        rcases i with _ | i
        · obtain rfl := Option.some.inj ho
          have o3 : ρ (.tmp 3) = .pointer (some ⟨x0.heap.size, 0, none⟩) := hout (.tmp 3) rfl
          have yg : y 7 = some false := (hdep ⟨7, .guard⟩ (by simp) rfl).2 51 rfl
          have ocn : ∀ v, ρ (.const v) = v := fun v => hout (.const v) rfl
          have ofn : ∀ f, ρ (.func f) = .func (.func f) #[] #[] := fun f => hout (.func f) rfl
          clear hdep hout
          refine .inr ⟨?_, rfl⟩
          show (y 7 == some true) = false
          rw [yg]; rfl
        rcases i with _ | i
        · obtain rfl := Option.some.inj ho
          have e8 : ρ (.tmp 52) = undef := (hdep ⟨8, .data⟩ (by simp) rfl).1 52 rfl
          have yg : y 7 = some false := (hdep ⟨7, .guard⟩ (by simp) rfl).2 51 rfl
          have ocn : ∀ v, ρ (.const v) = v := fun v => hout (.const v) rfl
          have ofn : ∀ f, ρ (.func f) = .func (.func f) #[] #[] := fun f => hout (.func f) rfl
          clear hdep hout
          refine .inr ⟨?_, rfl⟩
          show (y 7 == some true) = false
          rw [yg]; rfl
        rcases i with _ | i
        · obtain rfl := Option.some.inj ho
          have o3 : ρ (.tmp 3) = .pointer (some ⟨x0.heap.size, 0, none⟩) := hout (.tmp 3) rfl
          have yg : y 7 = some false := (hdep ⟨7, .guard⟩ (by simp) rfl).2 51 rfl
          have ocn : ∀ v, ρ (.const v) = v := fun v => hout (.const v) rfl
          have ofn : ∀ f, ρ (.func f) = .func (.func f) #[] #[] := fun f => hout (.func f) rfl
          clear hdep hout
          refine .inr ⟨?_, rfl⟩
          show (y 7 == some true) = false
          rw [yg]; rfl
        rcases i with _ | i
        · obtain rfl := Option.some.inj ho
          have e9 : ρ (.tmp 53) = undef := (hdep ⟨9, .data⟩ (by simp) rfl).1 53 rfl
          have e10 : ρ (.tmp 54) = undef := (hdep ⟨10, .data⟩ (by simp) rfl).1 54 rfl
          have yg : y 7 = some false := (hdep ⟨7, .guard⟩ (by simp) rfl).2 51 rfl
          have ocn : ∀ v, ρ (.const v) = v := fun v => hout (.const v) rfl
          have ofn : ∀ f, ρ (.func f) = .func (.func f) #[] #[] := fun f => hout (.func f) rfl
          clear hdep hout
          refine .inr ⟨?_, rfl⟩
          show (y 7 == some true) = false
          rw [yg]; rfl
        rcases i with _ | i
        · obtain rfl := Option.some.inj ho
          have e7 : ρ (.tmp 51) = .bool false := (hdep ⟨7, .data⟩ (by simp) rfl).1 51 rfl
          have e11 : ρ (.tmp 55) = undef := (hdep ⟨11, .data⟩ (by simp) rfl).1 55 rfl
          have ocn : ∀ v, ρ (.const v) = v := fun v => hout (.const v) rfl
          have ofn : ∀ f, ρ (.func f) = .func (.func f) #[] #[] := fun f => hout (.func f) rfl
          clear hdep hout
          refine .inl ⟨?_, ?_⟩
          · rfl
          show Gives _ _ _ (.bool false) _
          refine Gives.val ?_
          go_simp
        rcases i with _ | i
        · obtain rfl := Option.some.inj ho
          have e12 : ρ (.tmp 56) = .bool false := (hdep ⟨12, .data⟩ (by simp) rfl).1 56 rfl
          have ocn : ∀ v, ρ (.const v) = v := fun v => hout (.const v) rfl
          have ofn : ∀ f, ρ (.func f) = .func (.func f) #[] #[] := fun f => hout (.func f) rfl
          clear hdep hout
          refine .inl ⟨?_, ?_⟩
          · rfl
          show Gives _ _ _ (.bool false) _
          refine Gives.val ?_
          go_simp
        cases ho
      case fin =>
        intro x hBx
        have hBf := HAl.out.trans (hBx.mono HAl.out.size)
        go_wp2_with fail
        go_ret
        exact ⟨retBool (by have hfl := HFN.out.1; first | (simp [endF, noSite, HFN.out.1, hg, hso]; done) | (simp [endF, noSite, HFN.out.1, hg, hso]; intros; omega) | (simp_all [endF, noSite]; done) | (simp_all [endF, noSite] <;> omega)), hBf⟩
    · skip
      have HSO : Hid (∀ z : World, Below x0.heap.size x0 z → Calls Try.prog 111 #[.slice p pn cap, .agg #[.int .i64 0, .int .i64 0, .int .i64 0]] z fun e y => e = .returned (.bool true) ∧ Below z.heap.size z y) := fun z hz => by
        have := siteOk_any z B (.slice p pn cap) P (H.out.later hz) HOK.out (0, 0, 0)
        rw [hso] at this; exact this
      obtain ⟨g, o, hp, hgx, hfr⟩ := FrsAt.frame (p := ps) (cap := cs) (F := F) (j := F.length - 1) (by have := HS.out; rw [← HFN.out.1] at this; exact this) (by rw [HFN.out.1]; omega)
      subst hp
      have HT : Hid ((F.getD (F.length - 1) fr0) = topF F) := rfl
      rw [HT.out] at hfr
      rw [HFN.out.1] at hfr
      have t0 := hfr.c0
      have t2 := hfr.c2
      have HTP : Hid (∀ z : World, Below X.heap.size X z → Calls Try.prog 113 #[.pointer (some ⟨x0.heap.size, 0, none⟩)] z fun e y => e = .returned (.pointer (some ⟨g, o + (fn - 1) * 6, none⟩)) ∧ Below z.heap.size z y) := fun z hz => by
        have kb := K00.out.later hz
        exact top_any z x0.heap.size g o fn cs (kb.c 0 _ rfl) hg (by have := HFN.out.1; omega) kb.lt (Nat.lt_of_lt_of_le hgx (HAl.out.trans (hz.mono HAl.out.size)).size)
      have HIS : Hid (∀ z : World, Below X.heap.size X z → Calls Try.prog 112 #[.agg #[.int .i64 0, .int .i64 0, .int .i64 0], .pointer (some ⟨g, o + (fn - 1) * 6, none⟩)] z fun e y => e = .returned (.bool (decide (0 = (topF F).p) && decide (0 = (topF F).t))) ∧ Below z.heap.size z y) := fun z hz => by
        have hbz := HAl.out.trans (hz.mono HAl.out.size)
        exact isOf_any z g (o + (fn - 1) * 6) (topF F).p (topF F).t (0, 0, 0) ((hbz.cell (p := ⟨g, _, none⟩) hgx).trans t0) ((hbz.cell (p := ⟨g, _, none⟩) hgx).trans t2) (Nat.lt_of_lt_of_le hgx hbz.size)
      refine wp_region_vals (by kernel_rfl) (by kernel_rfl) (by kernel_rfl) (by kernel_rfl) (fun j => [.bool true, .bool true, .slice p pn cap, .pointer (some ⟨x0.heap.size, 4, none⟩), .agg #[.int .i64 0, .int .i64 0, .int .i64 0], .bool true, .bool true, .bool true, .pointer (some ⟨x0.heap.size, 4, none⟩), .agg #[.int .i64 0, .int .i64 0, .int .i64 0], .pointer (some ⟨g, o + (fn - 1) * 6, none⟩), .bool (decide (0 = (topF F).p) && decide (0 = (topF F).t)), .bool (decide (0 = (topF F).p) && decide (0 = (topF F).t)), .bool (decide (0 = (topF F).p) && decide (0 = (topF F).t))].getD j undef) X (Below.drew (Below.refl _ _)) ?step ⟨#[.slice p pn cap, .agg #[.slice (some ⟨g, o, none⟩) fn cs, .int .i64 n1, .int .i64 2, .int .i64 0, .int .i64 0, .int .i64 0, .int .i64 0], undef, .pointer (some ⟨x0.heap.size, 0, none⟩), .bool (decide (0 = (topF F).p) && decide (0 = (topF F).t)), .bool true, .bool true, .pointer (some ⟨x0.heap.size, 0, none⟩), .slice (some ⟨g, o, none⟩) fn cs, .int .i64 ↑fn, .bool true, .bool true, .pointer (some ⟨x0.heap.size, 3, none⟩), .int .i64 0, .bool true, .bool true, .pointer (some ⟨x0.heap.size, 4, none⟩), .agg #[.int .i64 0, .int .i64 0, .int .i64 0], .agg #[.int .i64 0, .int .i64 0, .int .i64 0], .bool true, .pointer (some ⟨x0.heap.size, 2, none⟩), .int .i64 2, .bool false, .bool false, undef, undef, undef, undef, .bool false, .bool false, undef, undef, undef, undef, undef, undef, undef, undef, undef, undef, undef, undef, .bool true, .bool true, .bool true, .bool true, .slice p pn cap, .pointer (some ⟨x0.heap.size, 4, none⟩), .agg #[.int .i64 0, .int .i64 0, .int .i64 0], .bool true, .bool true, .bool true, .pointer (some ⟨x0.heap.size, 4, none⟩), .agg #[.int .i64 0, .int .i64 0, .int .i64 0], .pointer (some ⟨g, o + (fn - 1) * 6, none⟩), .bool (decide (0 = (topF F).p) && decide (0 = (topF F).t)), .bool (decide (0 = (topF F).p) && decide (0 = (topF F).t)), undef, undef, undef, undef, undef, undef, undef, undef, undef, undef, undef, undef], []⟩ (by kernel_rfl) ?fin
      case step =>
        intro i o ho ρ y x hBx hdep hout
        rcases i with _ | i
        · obtain rfl := Option.some.inj ho
          have o5 : ρ (.tmp 5) = .bool true := hout (.tmp 5) rfl
          have ocn : ∀ v, ρ (.const v) = v := fun v => hout (.const v) rfl
          have ofn : ∀ f, ρ (.func f) = .func (.func f) #[] #[] := fun f => hout (.func f) rfl
          clear hdep hout
          refine .inl ⟨?_, ?_⟩
          · rfl
          show Gives _ _ _ (.bool true) _
          refine Gives.val ?_
          go_simp
        rcases i with _ | i
        · obtain rfl := Option.some.inj ho
          have e0 : ρ (.tmp 44) = .bool true := (hdep ⟨0, .data⟩ (by simp) rfl).1 44 rfl
          have ocn : ∀ v, ρ (.const v) = v := fun v => hout (.const v) rfl
          have ofn : ∀ f, ρ (.func f) = .func (.func f) #[] #[] := fun f => hout (.func f) rfl
          clear hdep hout
          refine .inl ⟨?_, ?_⟩
          · rfl
          show Gives _ _ _ (.bool true) _
          refine Gives.val ?_
          go_simp
        rcases i with _ | i
        · obtain rfl := Option.some.inj ho
          have o0 : ρ (.tmp 0) = .slice p pn cap := hout (.tmp 0) rfl
          have yg : y 1 = some true := (hdep ⟨1, .guard⟩ (by simp) rfl).2 45 rfl
          have ocn : ∀ v, ρ (.const v) = v := fun v => hout (.const v) rfl
          have ofn : ∀ f, ρ (.func f) = .func (.func f) #[] #[] := fun f => hout (.func f) rfl
          clear hdep hout
          refine .inl ⟨?_, ?_⟩
          · show (y 1 == some true) = true
            rw [yg]; rfl
          show Gives _ _ _ (.slice p pn cap) _
          refine Gives.val ?_
          go_simp
        rcases i with _ | i
        · obtain rfl := Option.some.inj ho
          have o3 : ρ (.tmp 3) = .pointer (some ⟨x0.heap.size, 0, none⟩) := hout (.tmp 3) rfl
          have yg : y 1 = some true := (hdep ⟨1, .guard⟩ (by simp) rfl).2 45 rfl
          have ocn : ∀ v, ρ (.const v) = v := fun v => hout (.const v) rfl
          have ofn : ∀ f, ρ (.func f) = .func (.func f) #[] #[] := fun f => hout (.func f) rfl
          clear hdep hout
          refine .inl ⟨?_, ?_⟩
          · show (y 1 == some true) = true
            rw [yg]; rfl
          show Gives _ _ _ (.pointer (some ⟨x0.heap.size, 4, none⟩)) _
          refine Gives.val ?_
          go_simp
        rcases i with _ | i
        · obtain rfl := Option.some.inj ho
          have e3 : ρ (.tmp 47) = .pointer (some ⟨x0.heap.size, 4, none⟩) := (hdep ⟨3, .data⟩ (by simp) rfl).1 47 rfl
          have yg : y 1 = some true := (hdep ⟨1, .guard⟩ (by simp) rfl).2 45 rfl
          have ocn : ∀ v, ρ (.const v) = v := fun v => hout (.const v) rfl
          have ofn : ∀ f, ρ (.func f) = .func (.func f) #[] #[] := fun f => hout (.func f) rfl
          clear hdep hout
          refine .inl ⟨?_, ?_⟩
          · show (y 1 == some true) = true
            rw [yg]; rfl
          have kb := K00.out.later hBx
          have c0 := kb.c 0 _ rfl
          have c3 := kb.c 3 _ rfl
          have c4 := kb.c 4 _ rfl
          have c5 := kb.c 5 _ rfl
          have c6 := kb.c 6 _ rfl
          have cl0 := kb.lt
          show Gives _ _ _ (.agg #[.int .i64 0, .int .i64 0, .int .i64 0]) _
          refine Gives.val ?_
          go_simp
        rcases i with _ | i
        · obtain rfl := Option.some.inj ho
          have e2 : ρ (.tmp 46) = .slice p pn cap := (hdep ⟨2, .data⟩ (by simp) rfl).1 46 rfl
          have e4 : ρ (.tmp 48) = .agg #[.int .i64 0, .int .i64 0, .int .i64 0] := (hdep ⟨4, .data⟩ (by simp) rfl).1 48 rfl
          have yg : y 1 = some true := (hdep ⟨1, .guard⟩ (by simp) rfl).2 45 rfl
          have ocn : ∀ v, ρ (.const v) = v := fun v => hout (.const v) rfl
          have ofn : ∀ f, ρ (.func f) = .func (.func f) #[] #[] := fun f => hout (.func f) rfl
          clear hdep hout
          refine .inl ⟨?_, ?_⟩
          · show (y 1 == some true) = true
            rw [yg]; rfl
          show Gives _ _ _ (.bool true) _
          refine Gives.call (HSO.out x (HAl.out.trans (hBx.mono HAl.out.size))) ?_
          go_simp
        rcases i with _ | i
        · obtain rfl := Option.some.inj ho
          have e1 : ρ (.tmp 45) = .bool true := (hdep ⟨1, .data⟩ (by simp) rfl).1 45 rfl
          have e5 : ρ (.tmp 49) = .bool true := (hdep ⟨5, .data⟩ (by simp) rfl).1 49 rfl
          have ocn : ∀ v, ρ (.const v) = v := fun v => hout (.const v) rfl
          have ofn : ∀ f, ρ (.func f) = .func (.func f) #[] #[] := fun f => hout (.func f) rfl
          clear hdep hout
          refine .inl ⟨?_, ?_⟩
          · rfl
          show Gives _ _ _ (.bool true) _
          refine Gives.val ?_
          go_simp
        rcases i with _ | i
        · obtain rfl := Option.some.inj ho
          have e6 : ρ (.tmp 50) = .bool true := (hdep ⟨6, .data⟩ (by simp) rfl).1 50 rfl
          have ocn : ∀ v, ρ (.const v) = v := fun v => hout (.const v) rfl
          have ofn : ∀ f, ρ (.func f) = .func (.func f) #[] #[] := fun f => hout (.func f) rfl
          clear hdep hout
          refine .inl ⟨?_, ?_⟩
          · rfl
          show Gives _ _ _ (.bool true) _
          refine Gives.val ?_
          go_simp
        rcases i with _ | i
        · obtain rfl := Option.some.inj ho
          have o3 : ρ (.tmp 3) = .pointer (some ⟨x0.heap.size, 0, none⟩) := hout (.tmp 3) rfl
          have yg : y 7 = some true := (hdep ⟨7, .guard⟩ (by simp) rfl).2 51 rfl
          have ocn : ∀ v, ρ (.const v) = v := fun v => hout (.const v) rfl
          have ofn : ∀ f, ρ (.func f) = .func (.func f) #[] #[] := fun f => hout (.func f) rfl
          clear hdep hout
          refine .inl ⟨?_, ?_⟩
          · show (y 7 == some true) = true
            rw [yg]; rfl
          show Gives _ _ _ (.pointer (some ⟨x0.heap.size, 4, none⟩)) _
          refine Gives.val ?_
          go_simp
        rcases i with _ | i
        · obtain rfl := Option.some.inj ho
          have e8 : ρ (.tmp 52) = .pointer (some ⟨x0.heap.size, 4, none⟩) := (hdep ⟨8, .data⟩ (by simp) rfl).1 52 rfl
          have yg : y 7 = some true := (hdep ⟨7, .guard⟩ (by simp) rfl).2 51 rfl
          have ocn : ∀ v, ρ (.const v) = v := fun v => hout (.const v) rfl
          have ofn : ∀ f, ρ (.func f) = .func (.func f) #[] #[] := fun f => hout (.func f) rfl
          clear hdep hout
          refine .inl ⟨?_, ?_⟩
          · show (y 7 == some true) = true
            rw [yg]; rfl
          have kb := K00.out.later hBx
          have c0 := kb.c 0 _ rfl
          have c3 := kb.c 3 _ rfl
          have c4 := kb.c 4 _ rfl
          have c5 := kb.c 5 _ rfl
          have c6 := kb.c 6 _ rfl
          have cl0 := kb.lt
          show Gives _ _ _ (.agg #[.int .i64 0, .int .i64 0, .int .i64 0]) _
          refine Gives.val ?_
          go_simp
        rcases i with _ | i
        · obtain rfl := Option.some.inj ho
          have o3 : ρ (.tmp 3) = .pointer (some ⟨x0.heap.size, 0, none⟩) := hout (.tmp 3) rfl
          have yg : y 7 = some true := (hdep ⟨7, .guard⟩ (by simp) rfl).2 51 rfl
          have ocn : ∀ v, ρ (.const v) = v := fun v => hout (.const v) rfl
          have ofn : ∀ f, ρ (.func f) = .func (.func f) #[] #[] := fun f => hout (.func f) rfl
          clear hdep hout
          refine .inl ⟨?_, ?_⟩
          · show (y 7 == some true) = true
            rw [yg]; rfl
          show Gives _ _ _ (.pointer (some ⟨g, o + (fn - 1) * 6, none⟩)) _
          refine Gives.call (HTP.out x hBx) ?_
          go_simp
        rcases i with _ | i
        · obtain rfl := Option.some.inj ho
          have e9 : ρ (.tmp 53) = .agg #[.int .i64 0, .int .i64 0, .int .i64 0] := (hdep ⟨9, .data⟩ (by simp) rfl).1 53 rfl
          have e10 : ρ (.tmp 54) = .pointer (some ⟨g, o + (fn - 1) * 6, none⟩) := (hdep ⟨10, .data⟩ (by simp) rfl).1 54 rfl
          have yg : y 7 = some true := (hdep ⟨7, .guard⟩ (by simp) rfl).2 51 rfl
          have ocn : ∀ v, ρ (.const v) = v := fun v => hout (.const v) rfl
          have ofn : ∀ f, ρ (.func f) = .func (.func f) #[] #[] := fun f => hout (.func f) rfl
          clear hdep hout
          refine .inl ⟨?_, ?_⟩
          · show (y 7 == some true) = true
            rw [yg]; rfl
          show Gives _ _ _ (.bool (decide (0 = (topF F).p) && decide (0 = (topF F).t))) _
          refine Gives.call (HIS.out x hBx) ?_
          go_simp
        rcases i with _ | i
        · obtain rfl := Option.some.inj ho
          have e7 : ρ (.tmp 51) = .bool true := (hdep ⟨7, .data⟩ (by simp) rfl).1 51 rfl
          have e11 : ρ (.tmp 55) = .bool (decide (0 = (topF F).p) && decide (0 = (topF F).t)) := (hdep ⟨11, .data⟩ (by simp) rfl).1 55 rfl
          have ocn : ∀ v, ρ (.const v) = v := fun v => hout (.const v) rfl
          have ofn : ∀ f, ρ (.func f) = .func (.func f) #[] #[] := fun f => hout (.func f) rfl
          clear hdep hout
          refine .inl ⟨?_, ?_⟩
          · rfl
          show Gives _ _ _ (.bool (decide (0 = (topF F).p) && decide (0 = (topF F).t))) _
          refine Gives.val ?_
          go_simp
        rcases i with _ | i
        · obtain rfl := Option.some.inj ho
          have e12 : ρ (.tmp 56) = .bool (decide (0 = (topF F).p) && decide (0 = (topF F).t)) := (hdep ⟨12, .data⟩ (by simp) rfl).1 56 rfl
          have ocn : ∀ v, ρ (.const v) = v := fun v => hout (.const v) rfl
          have ofn : ∀ f, ρ (.func f) = .func (.func f) #[] #[] := fun f => hout (.func f) rfl
          clear hdep hout
          refine .inl ⟨?_, ?_⟩
          · rfl
          show Gives _ _ _ (.bool (decide (0 = (topF F).p) && decide (0 = (topF F).t))) _
          refine Gives.val ?_
          go_simp
        cases ho
      case fin =>
        intro x hBx
        have hBf := HAl.out.trans (hBx.mono HAl.out.size)
        go_wp2_with fail
        go_ret
        exact ⟨retBool (by have hfl := HFN.out.1; first | (simp [endF, noSite, HFN.out.1, hg, hso]; done) | (simp [endF, noSite, HFN.out.1, hg, hso]; intros; omega) | (simp_all [endF, noSite]; done) | (simp_all [endF, noSite] <;> omega)), hBf⟩
  · by_cases e1 : n2 = 1
    · subst e1
      go_enter Try.func77, Try.ntmps77
      go_wp2_with fail
      go_ret
      exact ⟨retBool (by have hfl := HFN.out.1; first | (simp [endF, noSite, HFN.out.1, hg]; done) | (simp [endF, noSite, HFN.out.1, hg]; intros; omega) | (simp_all [endF, noSite]; done) | (simp_all [endF, noSite] <;> omega)), by first | exact (Below.refl _ _).alloc (Nat.le_refl _) _ | go_grown⟩
    · go_enter Try.func77, Try.ntmps77
      go_wp2_with fail
      all_goals
        go_ret
        exact ⟨retBool (by have hfl := HFN.out.1; first | (simp [endF, noSite, HFN.out.1, hg, e1, e2, *]; done) | (simp [endF, noSite, HFN.out.1, hg, e1, e2, *]; intros; omega) | (simp_all [endF, noSite]; done) | (simp_all [endF, noSite] <;> omega)), by first | exact (Below.refl _ _).alloc (Nat.le_refl _) _ | go_grown⟩

theorem endOk_any (x0 : World) (B : Nat) (v : Value) (P : List (List I4)) (h : ProgAt x0 B v P) (hok : progOkF P = true) (s : Value) (F : List Fr) (hF : FrsAt x0 s F) (hl5 : F.length ≤ 5) (q : R6) :
    Calls Try.prog 77 #[v, aggRun s q] x0 fun e y => e = .returned (.bool (endF P F q.2.1 q.2.2.1 q.2.2.2)) ∧ Below x0.heap.size x0 y := by
  obtain ⟨n1, n2, n3, n4, n5, n6⟩ := q
  by_cases h4 : n4 = 0
  · by_cases h5 : n5 = 0
    · by_cases h6 : n6 = 0
      · rcases Nat.eq_zero_or_pos F.length with hf | hf
        · exact endOk_S3G0 x0 B v P h hok s F hF hl5 n1 n2 n3 n4 n5 n6 h4 h5 h6 hf
        · by_cases ho : n3 = 0
          · exact endOk_S3G2 x0 B v P h hok s F hF hl5 n1 n2 n3 n4 n5 n6 h4 h5 h6 hf ho
          · exact endOk_S3G1 x0 B v P h hok s F hF hl5 n1 n2 n3 n4 n5 n6 h4 h5 h6 hf ho
      · rcases Nat.eq_zero_or_pos F.length with hf | hf
        · exact endOk_S2G0 x0 B v P h hok s F hF hl5 n1 n2 n3 n4 n5 n6 h4 h5 h6 hf
        · by_cases ho : n3 = 0
          · exact endOk_S2G2 x0 B v P h hok s F hF hl5 n1 n2 n3 n4 n5 n6 h4 h5 h6 hf ho
          · exact endOk_S2G1 x0 B v P h hok s F hF hl5 n1 n2 n3 n4 n5 n6 h4 h5 h6 hf ho
    · rcases Nat.eq_zero_or_pos F.length with hf | hf
      · exact endOk_S1G0 x0 B v P h hok s F hF hl5 n1 n2 n3 n4 n5 n6 h4 h5 hf
      · by_cases ho : n3 = 0
        · exact endOk_S1G2 x0 B v P h hok s F hF hl5 n1 n2 n3 n4 n5 n6 h4 h5 hf ho
        · exact endOk_S1G1 x0 B v P h hok s F hF hl5 n1 n2 n3 n4 n5 n6 h4 h5 hf ho
  · rcases Nat.eq_zero_or_pos F.length with hf | hf
    · exact endOk_S0G0 x0 B v P h hok s F hF hl5 n1 n2 n3 n4 n5 n6 h4 hf
    · by_cases ho : n3 = 0
      · exact endOk_S0G2 x0 B v P h hok s F hF hl5 n1 n2 n3 n4 n5 n6 h4 hf ho
      · exact endOk_S0G1 x0 B v P h hok s F hF hl5 n1 n2 n3 n4 n5 n6 h4 hf ho

end Go.Proofs.Ytifpijindmdboaa
