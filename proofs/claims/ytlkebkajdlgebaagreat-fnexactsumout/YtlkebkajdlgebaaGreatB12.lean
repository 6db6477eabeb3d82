import Derived.Test.YtlkebkajdlgebaaGreatB11
import Derived.Test.YtlkebkajdlgebaaGreatB7
/-
  Whether an instruction is ok, as the program says it: some kinds.
-/
namespace Go.Proofs.YtlkebkajdlgebaaGreat
open Go.RowKit
set_option linter.unusedVariables false
set_option linter.unusedSimpArgs false

set_option maxRecDepth 100000 in
set_option maxHeartbeats 4000000 in
theorem insOk_back (a b c p q : Int) (w : World) : Calls Tryz.prog 57 #[aggI (9, a, b, c), .agg #[.int .i64 p, .int .i64 q]] w fun e w' => e = .returned (.bool ((inI a 0 2) && restF (lettersF 9) a b c)) ∧ Below w.heap.size w w' := by
  have hl3 := letters_ok 9
  obtain ⟨s, hs⟩ : ∃ s, lettersF 9 = s := ⟨_, rfl⟩
  obtain ⟨f, hf⟩ : ∃ f, (inI a 0 2) = f := ⟨_, rfl⟩
  obtain ⟨r, hr⟩ : ∃ r, restF s a b c = r := ⟨_, rfl⟩
  rw [hs] at hl3
  have HF : Hid (∀ x : World, Calls Tryz.prog 187 #[.agg #[.int .i64 a], .agg #[.int .i64 p, .int .i64 q]] x fun e w' => e = .returned (.bool f) ∧ Below x.heap.size x w') := fun x => by have := back_fits a p q x; rw [hf] at this; exact this
  have HL : Hid (∀ x : World, Calls Tryz.prog 81 #[.iface 171 (.agg #[.int .i64 a])] x fun e w' => e = .returned (.string s) ∧ Below x.heap.size x w') := fun x => by
    have := lettersOf_any (9, a, b, c) x (by simp) (by simp)
    simp only [ifcF] at this
    refine this.mono ?_
    rintro e w' ⟨rfl, rfl⟩
    exact ⟨by rw [hs], Below.refl _ _⟩
  have HR : Hid (∀ x : World, Calls Tryz.prog 80 #[.agg #[.int .i64 9, .int .i64 a, .int .i64 b, .int .i64 c], .string s] x fun e w' => e = .returned (.bool r) ∧ Below x.heap.size x w') := fun x => by
    have := restIsZero_any 9 a b c s x hl3.1 hl3.2.1 hl3.2.2
    rw [hr] at this
    exact this
  rw [hs, hf, hr]
  clear hs hf hr hl3
  have hA : Below w.heap.size w ((w.alloc (.cells #[.int .i64 9, .int .i64 a, .int .i64 b, .int .i64 c] 104)).alloc (.cells #[.int .i64 p, .int .i64 q] 107)) := by go_grown
  have hR := Rm.new w 9 a b c p q
  unfold aggI
  simp only
  go_enter Tryz.func57, Tryz.ntmps57
  go_wp2_with fail
  refine (instructionOf_any (9, a, b, c) _).mono ?_
  rintro e w1 ⟨rfl, hb1⟩
  have hB1 := hA.trans (hb1.mono (by simp; omega))
  have KR : Hid (Rm w1 w.heap.size 9 a b c p q) := hR.later hb1
  clear hA hR hb1
  simp only [ifcF]
  go_wp2_with fail
  cases f
  · skip
    refine wp_region_vals (by kernel_rfl) (by kernel_rfl) (by kernel_rfl) (by kernel_rfl) (fun j => [.iface 171 (.agg #[.int .i64 a]), .bool true, .bool true, .iface 171 (.agg #[.int .i64 a]), .agg #[.int .i64 p, .int .i64 q], .bool false, .bool false, .bool false, undef, undef, undef, undef, .bool false, .bool false].getD j undef) w1 (Below.drew (Below.refl _ _)) ?step ⟨#[.agg #[.int .i64 9, .int .i64 a, .int .i64 b, .int .i64 c], .agg #[.int .i64 p, .int .i64 q], .pointer (some ⟨w.heap.size, 0, none⟩), .pointer (some ⟨w.heap.size + 1, 0, none⟩), .bool false, .iface 171 (.agg #[.int .i64 a]), .agg #[.int .i64 9, .int .i64 a, .int .i64 b, .int .i64 c], .iface 171 (.agg #[.int .i64 a]), .iface 171 (.agg #[.int .i64 a]), .bool true, .bool true, .iface 171 (.agg #[.int .i64 a]), .agg #[.int .i64 p, .int .i64 q], .bool false, .bool false, .bool false, undef, undef, undef, undef, .bool false], []⟩ (by kernel_rfl) ?fin
    case step =>
      intro i o ho ρ y x hBx hdep hout
      rcases i with _ | i
      · obtain rfl := Option.some.inj ho
        have o5 : ρ (.tmp 5) = .iface 171 (.agg #[.int .i64 a]) := hout (.tmp 5) rfl
        clear hdep hout
        refine .inl ⟨rfl, (Gives.val ?_ : Gives _ _ _ (.iface 171 (.agg #[.int .i64 a])) _)⟩
        go_simp
      rcases i with _ | i
      · obtain rfl := Option.some.inj ho
        have e0 : ρ (.tmp 8) = .iface 171 (.agg #[.int .i64 a]) := (hdep ⟨0, .data⟩ (by simp) rfl).1 8 rfl
        have ocn : ∀ v, ρ (.const v) = v := fun v => hout (.const v) rfl
        clear hdep hout
        refine .inl ⟨rfl, (Gives.val ?_ : Gives _ _ _ (.bool true) _)⟩
        go_simp
      rcases i with _ | i
      · obtain rfl := Option.some.inj ho
        have e1 : ρ (.tmp 9) = .bool true := (hdep ⟨1, .data⟩ (by simp) rfl).1 9 rfl
        clear hdep hout
        refine .inl ⟨rfl, (Gives.val ?_ : Gives _ _ _ (.bool true) _)⟩
        go_simp
      rcases i with _ | i
      · obtain rfl := Option.some.inj ho
        have o5 : ρ (.tmp 5) = .iface 171 (.agg #[.int .i64 a]) := hout (.tmp 5) rfl
        have yg : y 2 = some true := (hdep ⟨2, .guard⟩ (by simp) rfl).2 10 rfl
        clear hdep hout
        refine .inl ⟨(by show (y 2 == some true) = true; rw [yg]; rfl), (Gives.val ?_ : Gives _ _ _ (.iface 171 (.agg #[.int .i64 a])) _)⟩
        go_simp
      rcases i with _ | i
      · obtain rfl := Option.some.inj ho
        have o3 : ρ (.tmp 3) = .pointer (some ⟨w.heap.size + 1, 0, none⟩) := hout (.tmp 3) rfl
        have yg : y 2 = some true := (hdep ⟨2, .guard⟩ (by simp) rfl).2 10 rfl
        clear hdep hout
        obtain ⟨n, c0, c1, c2, c3, d0, d1⟩ := KR.out.later hBx
        refine .inl ⟨(by show (y 2 == some true) = true; rw [yg]; rfl), (Gives.val ?_ : Gives _ _ _ (.agg #[.int .i64 p, .int .i64 q]) _)⟩
        go_simp
      rcases i with _ | i
      · obtain rfl := Option.some.inj ho
        have e3 : ρ (.tmp 11) = .iface 171 (.agg #[.int .i64 a]) := (hdep ⟨3, .data⟩ (by simp) rfl).1 11 rfl
        have e4 : ρ (.tmp 12) = .agg #[.int .i64 p, .int .i64 q] := (hdep ⟨4, .data⟩ (by simp) rfl).1 12 rfl
        have yg : y 2 = some true := (hdep ⟨2, .guard⟩ (by simp) rfl).2 10 rfl
        clear hdep hout
        refine .inl ⟨?_, ?_⟩
        · show (y 2 == some true) = true
          rw [yg]; rfl
        show Gives _ _ _ (.bool false) _
        refine Gives.call (HF.out x) ?_
        go_simp
        go_invoke
        go_simp
      rcases i with _ | i
      · obtain rfl := Option.some.inj ho
        have e2 : ρ (.tmp 10) = .bool true := (hdep ⟨2, .data⟩ (by simp) rfl).1 10 rfl
        have e5 : ρ (.tmp 13) = .bool false := (hdep ⟨5, .data⟩ (by simp) rfl).1 13 rfl
        have ocn : ∀ v, ρ (.const v) = v := fun v => hout (.const v) rfl
        clear hdep hout
        refine .inl ⟨rfl, (Gives.val ?_ : Gives _ _ _ (.bool false) _)⟩
        go_simp
      rcases i with _ | i
      · obtain rfl := Option.some.inj ho
        have e6 : ρ (.tmp 14) = .bool false := (hdep ⟨6, .data⟩ (by simp) rfl).1 14 rfl
        clear hdep hout
        refine .inl ⟨rfl, (Gives.val ?_ : Gives _ _ _ (.bool false) _)⟩
        go_simp
      rcases i with _ | i
      · obtain rfl := Option.some.inj ho
        have yg : y 7 = some false := (hdep ⟨7, .guard⟩ (by simp) rfl).2 15 rfl
        exact .inr ⟨by show (y 7 == some true) = false; rw [yg]; rfl, rfl⟩
      rcases i with _ | i
      · obtain rfl := Option.some.inj ho
        have yg : y 7 = some false := (hdep ⟨7, .guard⟩ (by simp) rfl).2 15 rfl
        exact .inr ⟨by show (y 7 == some true) = false; rw [yg]; rfl, rfl⟩
      rcases i with _ | i
      · obtain rfl := Option.some.inj ho
        have yg : y 7 = some false := (hdep ⟨7, .guard⟩ (by simp) rfl).2 15 rfl
        exact .inr ⟨by show (y 7 == some true) = false; rw [yg]; rfl, rfl⟩
      rcases i with _ | i
      · obtain rfl := Option.some.inj ho
        have yg : y 7 = some false := (hdep ⟨7, .guard⟩ (by simp) rfl).2 15 rfl
        exact .inr ⟨by show (y 7 == some true) = false; rw [yg]; rfl, rfl⟩
      rcases i with _ | i
      · obtain rfl := Option.some.inj ho
        have e7 : ρ (.tmp 15) = .bool false := (hdep ⟨7, .data⟩ (by simp) rfl).1 15 rfl
        have e11 : ρ (.tmp 19) = undef := (hdep ⟨11, .data⟩ (by simp) rfl).1 19 rfl
        have ocn : ∀ v, ρ (.const v) = v := fun v => hout (.const v) rfl
        clear hdep hout
        refine .inl ⟨rfl, (Gives.val ?_ : Gives _ _ _ (.bool false) _)⟩
        go_simp
      rcases i with _ | i
      · obtain rfl := Option.some.inj ho
        have e12 : ρ (.tmp 20) = .bool false := (hdep ⟨12, .data⟩ (by simp) rfl).1 20 rfl
        clear hdep hout
        refine .inl ⟨rfl, (Gives.val ?_ : Gives _ _ _ (.bool false) _)⟩
        go_simp
      cases ho
    case fin =>
      intro x hBx
      go_wp2_with fail
      go_ret
      exact ⟨rfl, hB1.trans (hBx.mono hB1.size)⟩
  · skip
    refine wp_region_vals (by kernel_rfl) (by kernel_rfl) (by kernel_rfl) (by kernel_rfl) (fun j => [.iface 171 (.agg #[.int .i64 a]), .bool true, .bool true, .iface 171 (.agg #[.int .i64 a]), .agg #[.int .i64 p, .int .i64 q], .bool true, .bool true, .bool true, .agg #[.int .i64 9, .int .i64 a, .int .i64 b, .int .i64 c], .iface 171 (.agg #[.int .i64 a]), .string s, .bool r, .bool r, .bool r].getD j undef) w1 (Below.drew (Below.refl _ _)) ?step ⟨#[.agg #[.int .i64 9, .int .i64 a, .int .i64 b, .int .i64 c], .agg #[.int .i64 p, .int .i64 q], .pointer (some ⟨w.heap.size, 0, none⟩), .pointer (some ⟨w.heap.size + 1, 0, none⟩), .bool r, .iface 171 (.agg #[.int .i64 a]), .agg #[.int .i64 9, .int .i64 a, .int .i64 b, .int .i64 c], .iface 171 (.agg #[.int .i64 a]), .iface 171 (.agg #[.int .i64 a]), .bool true, .bool true, .iface 171 (.agg #[.int .i64 a]), .agg #[.int .i64 p, .int .i64 q], .bool true, .bool true, .bool true, .agg #[.int .i64 9, .int .i64 a, .int .i64 b, .int .i64 c], .iface 171 (.agg #[.int .i64 a]), .string s, .bool r, .bool r], []⟩ (by kernel_rfl) ?fin
    case step =>
      intro i o ho ρ y x hBx hdep hout
      rcases i with _ | i
      · obtain rfl := Option.some.inj ho
        have o5 : ρ (.tmp 5) = .iface 171 (.agg #[.int .i64 a]) := hout (.tmp 5) rfl
        clear hdep hout
        refine .inl ⟨rfl, (Gives.val ?_ : Gives _ _ _ (.iface 171 (.agg #[.int .i64 a])) _)⟩
        go_simp
      rcases i with _ | i
      · obtain rfl := Option.some.inj ho
        have e0 : ρ (.tmp 8) = .iface 171 (.agg #[.int .i64 a]) := (hdep ⟨0, .data⟩ (by simp) rfl).1 8 rfl
        have ocn : ∀ v, ρ (.const v) = v := fun v => hout (.const v) rfl
        clear hdep hout
        refine .inl ⟨rfl, (Gives.val ?_ : Gives _ _ _ (.bool true) _)⟩
        go_simp
      rcases i with _ | i
      · obtain rfl := Option.some.inj ho
        have e1 : ρ (.tmp 9) = .bool true := (hdep ⟨1, .data⟩ (by simp) rfl).1 9 rfl
        clear hdep hout
        refine .inl ⟨rfl, (Gives.val ?_ : Gives _ _ _ (.bool true) _)⟩
        go_simp
      rcases i with _ | i
      · obtain rfl := Option.some.inj ho
        have o5 : ρ (.tmp 5) = .iface 171 (.agg #[.int .i64 a]) := hout (.tmp 5) rfl
        have yg : y 2 = some true := (hdep ⟨2, .guard⟩ (by simp) rfl).2 10 rfl
        clear hdep hout
        refine .inl ⟨(by show (y 2 == some true) = true; rw [yg]; rfl), (Gives.val ?_ : Gives _ _ _ (.iface 171 (.agg #[.int .i64 a])) _)⟩
        go_simp
      rcases i with _ | i
      · obtain rfl := Option.some.inj ho
        have o3 : ρ (.tmp 3) = .pointer (some ⟨w.heap.size + 1, 0, none⟩) := hout (.tmp 3) rfl
        have yg : y 2 = some true := (hdep ⟨2, .guard⟩ (by simp) rfl).2 10 rfl
        clear hdep hout
        obtain ⟨n, c0, c1, c2, c3, d0, d1⟩ := KR.out.later hBx
        refine .inl ⟨(by show (y 2 == some true) = true; rw [yg]; rfl), (Gives.val ?_ : Gives _ _ _ (.agg #[.int .i64 p, .int .i64 q]) _)⟩
        go_simp
      rcases i with _ | i
      · obtain rfl := Option.some.inj ho
        have e3 : ρ (.tmp 11) = .iface 171 (.agg #[.int .i64 a]) := (hdep ⟨3, .data⟩ (by simp) rfl).1 11 rfl
        have e4 : ρ (.tmp 12) = .agg #[.int .i64 p, .int .i64 q] := (hdep ⟨4, .data⟩ (by simp) rfl).1 12 rfl
        have yg : y 2 = some true := (hdep ⟨2, .guard⟩ (by simp) rfl).2 10 rfl
        clear hdep hout
        refine .inl ⟨?_, ?_⟩
        · show (y 2 == some true) = true
          rw [yg]; rfl
        show Gives _ _ _ (.bool true) _
        refine Gives.call (HF.out x) ?_
        go_simp
        go_invoke
        go_simp
      rcases i with _ | i
      · obtain rfl := Option.some.inj ho
        have e2 : ρ (.tmp 10) = .bool true := (hdep ⟨2, .data⟩ (by simp) rfl).1 10 rfl
        have e5 : ρ (.tmp 13) = .bool true := (hdep ⟨5, .data⟩ (by simp) rfl).1 13 rfl
        have ocn : ∀ v, ρ (.const v) = v := fun v => hout (.const v) rfl
        clear hdep hout
        refine .inl ⟨rfl, (Gives.val ?_ : Gives _ _ _ (.bool true) _)⟩
        go_simp
      rcases i with _ | i
      · obtain rfl := Option.some.inj ho
        have e6 : ρ (.tmp 14) = .bool true := (hdep ⟨6, .data⟩ (by simp) rfl).1 14 rfl
        clear hdep hout
        refine .inl ⟨rfl, (Gives.val ?_ : Gives _ _ _ (.bool true) _)⟩
        go_simp
      rcases i with _ | i
      · obtain rfl := Option.some.inj ho
        have o2 : ρ (.tmp 2) = .pointer (some ⟨w.heap.size, 0, none⟩) := hout (.tmp 2) rfl
        have yg : y 7 = some true := (hdep ⟨7, .guard⟩ (by simp) rfl).2 15 rfl
        clear hdep hout
        obtain ⟨n, c0, c1, c2, c3, d0, d1⟩ := KR.out.later hBx
        refine .inl ⟨(by show (y 7 == some true) = true; rw [yg]; rfl), (Gives.val ?_ : Gives _ _ _ (.agg #[.int .i64 9, .int .i64 a, .int .i64 b, .int .i64 c]) _)⟩
        go_simp
      rcases i with _ | i
      · obtain rfl := Option.some.inj ho
        have o5 : ρ (.tmp 5) = .iface 171 (.agg #[.int .i64 a]) := hout (.tmp 5) rfl
        have yg : y 7 = some true := (hdep ⟨7, .guard⟩ (by simp) rfl).2 15 rfl
        clear hdep hout
        refine .inl ⟨(by show (y 7 == some true) = true; rw [yg]; rfl), (Gives.val ?_ : Gives _ _ _ (.iface 171 (.agg #[.int .i64 a])) _)⟩
        go_simp
      rcases i with _ | i
      · obtain rfl := Option.some.inj ho
        have e9 : ρ (.tmp 17) = .iface 171 (.agg #[.int .i64 a]) := (hdep ⟨9, .data⟩ (by simp) rfl).1 17 rfl
        have yg : y 7 = some true := (hdep ⟨7, .guard⟩ (by simp) rfl).2 15 rfl
        have ofn : ∀ f, ρ (.func f) = .func (.func f) #[] #[] := fun f => hout (.func f) rfl
        clear hdep hout
        refine .inl ⟨?_, ?_⟩
        · show (y 7 == some true) = true
          rw [yg]; rfl
        show Gives _ _ _ (.string s) _
        refine Gives.call (HL.out x) ?_
        go_simp
      rcases i with _ | i
      · obtain rfl := Option.some.inj ho
        have e8 : ρ (.tmp 16) = .agg #[.int .i64 9, .int .i64 a, .int .i64 b, .int .i64 c] := (hdep ⟨8, .data⟩ (by simp) rfl).1 16 rfl
        have e10 : ρ (.tmp 18) = .string s := (hdep ⟨10, .data⟩ (by simp) rfl).1 18 rfl
        have yg : y 7 = some true := (hdep ⟨7, .guard⟩ (by simp) rfl).2 15 rfl
        have ofn : ∀ f, ρ (.func f) = .func (.func f) #[] #[] := fun f => hout (.func f) rfl
        clear hdep hout
        refine .inl ⟨?_, ?_⟩
        · show (y 7 == some true) = true
          rw [yg]; rfl
        show Gives _ _ _ (.bool r) _
        refine Gives.call (HR.out x) ?_
        go_simp
      rcases i with _ | i
      · obtain rfl := Option.some.inj ho
        have e7 : ρ (.tmp 15) = .bool true := (hdep ⟨7, .data⟩ (by simp) rfl).1 15 rfl
        have e11 : ρ (.tmp 19) = .bool r := (hdep ⟨11, .data⟩ (by simp) rfl).1 19 rfl
        have ocn : ∀ v, ρ (.const v) = v := fun v => hout (.const v) rfl
        clear hdep hout
        refine .inl ⟨rfl, (Gives.val ?_ : Gives _ _ _ (.bool r) _)⟩
        go_simp
      rcases i with _ | i
      · obtain rfl := Option.some.inj ho
        have e12 : ρ (.tmp 20) = .bool r := (hdep ⟨12, .data⟩ (by simp) rfl).1 20 rfl
        clear hdep hout
        refine .inl ⟨rfl, (Gives.val ?_ : Gives _ _ _ (.bool r) _)⟩
        go_simp
      cases ho
    case fin =>
      intro x hBx
      go_wp2_with fail
      go_ret
      exact ⟨rfl, hB1.trans (hBx.mono hB1.size)⟩

set_option maxRecDepth 100000 in
set_option maxHeartbeats 4000000 in
theorem insOk_hold (a b c p q : Int) (w : World) : Calls Tryz.prog 57 #[aggI (10, a, b, c), .agg #[.int .i64 p, .int .i64 q]] w fun e w' => e = .returned (.bool ((inI a 0 2) && restF (lettersF 10) a b c)) ∧ Below w.heap.size w w' := by
  have hl3 := letters_ok 10
  obtain ⟨s, hs⟩ : ∃ s, lettersF 10 = s := ⟨_, rfl⟩
  obtain ⟨f, hf⟩ : ∃ f, (inI a 0 2) = f := ⟨_, rfl⟩
  obtain ⟨r, hr⟩ : ∃ r, restF s a b c = r := ⟨_, rfl⟩
  rw [hs] at hl3
  have HF : Hid (∀ x : World, Calls Tryz.prog 189 #[.agg #[.int .i64 a], .agg #[.int .i64 p, .int .i64 q]] x fun e w' => e = .returned (.bool f) ∧ Below x.heap.size x w') := fun x => by have := hold_fits a p q x; rw [hf] at this; exact this
  have HL : Hid (∀ x : World, Calls Tryz.prog 81 #[.iface 173 (.agg #[.int .i64 a])] x fun e w' => e = .returned (.string s) ∧ Below x.heap.size x w') := fun x => by
    have := lettersOf_any (10, a, b, c) x (by simp) (by simp)
    simp only [ifcF] at this
    refine this.mono ?_
    rintro e w' ⟨rfl, rfl⟩
    exact ⟨by rw [hs], Below.refl _ _⟩
  have HR : Hid (∀ x : World, Calls Tryz.prog 80 #[.agg #[.int .i64 10, .int .i64 a, .int .i64 b, .int .i64 c], .string s] x fun e w' => e = .returned (.bool r) ∧ Below x.heap.size x w') := fun x => by
    have := restIsZero_any 10 a b c s x hl3.1 hl3.2.1 hl3.2.2
    rw [hr] at this
    exact this
  rw [hs, hf, hr]
  clear hs hf hr hl3
  have hA : Below w.heap.size w ((w.alloc (.cells #[.int .i64 10, .int .i64 a, .int .i64 b, .int .i64 c] 104)).alloc (.cells #[.int .i64 p, .int .i64 q] 107)) := by go_grown
  have hR := Rm.new w 10 a b c p q
  unfold aggI
  simp only
  go_enter Tryz.func57, Tryz.ntmps57
  go_wp2_with fail
  refine (instructionOf_any (10, a, b, c) _).mono ?_
  rintro e w1 ⟨rfl, hb1⟩
  have hB1 := hA.trans (hb1.mono (by simp; omega))
  have KR : Hid (Rm w1 w.heap.size 10 a b c p q) := hR.later hb1
  clear hA hR hb1
  simp only [ifcF]
  go_wp2_with fail
  cases f
  · skip
    refine wp_region_vals (by kernel_rfl) (by kernel_rfl) (by kernel_rfl) (by kernel_rfl) (fun j => [.iface 173 (.agg #[.int .i64 a]), .bool true, .bool true, .iface 173 (.agg #[.int .i64 a]), .agg #[.int .i64 p, .int .i64 q], .bool false, .bool false, .bool false, undef, undef, undef, undef, .bool false, .bool false].getD j undef) w1 (Below.drew (Below.refl _ _)) ?step ⟨#[.agg #[.int .i64 10, .int .i64 a, .int .i64 b, .int .i64 c], .agg #[.int .i64 p, .int .i64 q], .pointer (some ⟨w.heap.size, 0, none⟩), .pointer (some ⟨w.heap.size + 1, 0, none⟩), .bool false, .iface 173 (.agg #[.int .i64 a]), .agg #[.int .i64 10, .int .i64 a, .int .i64 b, .int .i64 c], .iface 173 (.agg #[.int .i64 a]), .iface 173 (.agg #[.int .i64 a]), .bool true, .bool true, .iface 173 (.agg #[.int .i64 a]), .agg #[.int .i64 p, .int .i64 q], .bool false, .bool false, .bool false, undef, undef, undef, undef, .bool false], []⟩ (by kernel_rfl) ?fin
    case step =>
      intro i o ho ρ y x hBx hdep hout
      rcases i with _ | i
      · obtain rfl := Option.some.inj ho
        have o5 : ρ (.tmp 5) = .iface 173 (.agg #[.int .i64 a]) := hout (.tmp 5) rfl
        clear hdep hout
        refine .inl ⟨rfl, (Gives.val ?_ : Gives _ _ _ (.iface 173 (.agg #[.int .i64 a])) _)⟩
        go_simp
      rcases i with _ | i
      · obtain rfl := Option.some.inj ho
        have e0 : ρ (.tmp 8) = .iface 173 (.agg #[.int .i64 a]) := (hdep ⟨0, .data⟩ (by simp) rfl).1 8 rfl
        have ocn : ∀ v, ρ (.const v) = v := fun v => hout (.const v) rfl
        clear hdep hout
        refine .inl ⟨rfl, (Gives.val ?_ : Gives _ _ _ (.bool true) _)⟩
        go_simp
      rcases i with _ | i
      · obtain rfl := Option.some.inj ho
        have e1 : ρ (.tmp 9) = .bool true := (hdep ⟨1, .data⟩ (by simp) rfl).1 9 rfl
        clear hdep hout
        refine .inl ⟨rfl, (Gives.val ?_ : Gives _ _ _ (.bool true) _)⟩
        go_simp
      rcases i with _ | i
      · obtain rfl := Option.some.inj ho
        have o5 : ρ (.tmp 5) = .iface 173 (.agg #[.int .i64 a]) := hout (.tmp 5) rfl
        have yg : y 2 = some true := (hdep ⟨2, .guard⟩ (by simp) rfl).2 10 rfl
        clear hdep hout
        refine .inl ⟨(by show (y 2 == some true) = true; rw [yg]; rfl), (Gives.val ?_ : Gives _ _ _ (.iface 173 (.agg #[.int .i64 a])) _)⟩
        go_simp
      rcases i with _ | i
      · obtain rfl := Option.some.inj ho
        have o3 : ρ (.tmp 3) = .pointer (some ⟨w.heap.size + 1, 0, none⟩) := hout (.tmp 3) rfl
        have yg : y 2 = some true := (hdep ⟨2, .guard⟩ (by simp) rfl).2 10 rfl
        clear hdep hout
        obtain ⟨n, c0, c1, c2, c3, d0, d1⟩ := KR.out.later hBx
        refine .inl ⟨(by show (y 2 == some true) = true; rw [yg]; rfl), (Gives.val ?_ : Gives _ _ _ (.agg #[.int .i64 p, .int .i64 q]) _)⟩
        go_simp
      rcases i with _ | i
      · obtain rfl := Option.some.inj ho
        have e3 : ρ (.tmp 11) = .iface 173 (.agg #[.int .i64 a]) := (hdep ⟨3, .data⟩ (by simp) rfl).1 11 rfl
        have e4 : ρ (.tmp 12) = .agg #[.int .i64 p, .int .i64 q] := (hdep ⟨4, .data⟩ (by simp) rfl).1 12 rfl
        have yg : y 2 = some true := (hdep ⟨2, .guard⟩ (by simp) rfl).2 10 rfl
        clear hdep hout
        refine .inl ⟨?_, ?_⟩
        · show (y 2 == some true) = true
          rw [yg]; rfl
        show Gives _ _ _ (.bool false) _
        refine Gives.call (HF.out x) ?_
        go_simp
        go_invoke
        go_simp
      rcases i with _ | i
      · obtain rfl := Option.some.inj ho
        have e2 : ρ (.tmp 10) = .bool true := (hdep ⟨2, .data⟩ (by simp) rfl).1 10 rfl
        have e5 : ρ (.tmp 13) = .bool false := (hdep ⟨5, .data⟩ (by simp) rfl).1 13 rfl
        have ocn : ∀ v, ρ (.const v) = v := fun v => hout (.const v) rfl
        clear hdep hout
        refine .inl ⟨rfl, (Gives.val ?_ : Gives _ _ _ (.bool false) _)⟩
        go_simp
      rcases i with _ | i
      · obtain rfl := Option.some.inj ho
        have e6 : ρ (.tmp 14) = .bool false := (hdep ⟨6, .data⟩ (by simp) rfl).1 14 rfl
        clear hdep hout
        refine .inl ⟨rfl, (Gives.val ?_ : Gives _ _ _ (.bool false) _)⟩
        go_simp
      rcases i with _ | i
      · obtain rfl := Option.some.inj ho
        have yg : y 7 = some false := (hdep ⟨7, .guard⟩ (by simp) rfl).2 15 rfl
        exact .inr ⟨by show (y 7 == some true) = false; rw [yg]; rfl, rfl⟩
      rcases i with _ | i
      · obtain rfl := Option.some.inj ho
        have yg : y 7 = some false := (hdep ⟨7, .guard⟩ (by simp) rfl).2 15 rfl
        exact .inr ⟨by show (y 7 == some true) = false; rw [yg]; rfl, rfl⟩
      rcases i with _ | i
      · obtain rfl := Option.some.inj ho
        have yg : y 7 = some false := (hdep ⟨7, .guard⟩ (by simp) rfl).2 15 rfl
        exact .inr ⟨by show (y 7 == some true) = false; rw [yg]; rfl, rfl⟩
      rcases i with _ | i
      · obtain rfl := Option.some.inj ho
        have yg : y 7 = some false := (hdep ⟨7, .guard⟩ (by simp) rfl).2 15 rfl
        exact .inr ⟨by show (y 7 == some true) = false; rw [yg]; rfl, rfl⟩
      rcases i with _ | i
      · obtain rfl := Option.some.inj ho
        have e7 : ρ (.tmp 15) = .bool false := (hdep ⟨7, .data⟩ (by simp) rfl).1 15 rfl
        have e11 : ρ (.tmp 19) = undef := (hdep ⟨11, .data⟩ (by simp) rfl).1 19 rfl
        have ocn : ∀ v, ρ (.const v) = v := fun v => hout (.const v) rfl
        clear hdep hout
        refine .inl ⟨rfl, (Gives.val ?_ : Gives _ _ _ (.bool false) _)⟩
        go_simp
      rcases i with _ | i
      · obtain rfl := Option.some.inj ho
        have e12 : ρ (.tmp 20) = .bool false := (hdep ⟨12, .data⟩ (by simp) rfl).1 20 rfl
        clear hdep hout
        refine .inl ⟨rfl, (Gives.val ?_ : Gives _ _ _ (.bool false) _)⟩
        go_simp
      cases ho
    case fin =>
      intro x hBx
      go_wp2_with fail
      go_ret
      exact ⟨rfl, hB1.trans (hBx.mono hB1.size)⟩
  · skip
    refine wp_region_vals (by kernel_rfl) (by kernel_rfl) (by kernel_rfl) (by kernel_rfl) (fun j => [.iface 173 (.agg #[.int .i64 a]), .bool true, .bool true, .iface 173 (.agg #[.int .i64 a]), .agg #[.int .i64 p, .int .i64 q], .bool true, .bool true, .bool true, .agg #[.int .i64 10, .int .i64 a, .int .i64 b, .int .i64 c], .iface 173 (.agg #[.int .i64 a]), .string s, .bool r, .bool r, .bool r].getD j undef) w1 (Below.drew (Below.refl _ _)) ?step ⟨#[.agg #[.int .i64 10, .int .i64 a, .int .i64 b, .int .i64 c], .agg #[.int .i64 p, .int .i64 q], .pointer (some ⟨w.heap.size, 0, none⟩), .pointer (some ⟨w.heap.size + 1, 0, none⟩), .bool r, .iface 173 (.agg #[.int .i64 a]), .agg #[.int .i64 10, .int .i64 a, .int .i64 b, .int .i64 c], .iface 173 (.agg #[.int .i64 a]), .iface 173 (.agg #[.int .i64 a]), .bool true, .bool true, .iface 173 (.agg #[.int .i64 a]), .agg #[.int .i64 p, .int .i64 q], .bool true, .bool true, .bool true, .agg #[.int .i64 10, .int .i64 a, .int .i64 b, .int .i64 c], .iface 173 (.agg #[.int .i64 a]), .string s, .bool r, .bool r], []⟩ (by kernel_rfl) ?fin
    case step =>
      intro i o ho ρ y x hBx hdep hout
      rcases i with _ | i
      · obtain rfl := Option.some.inj ho
        have o5 : ρ (.tmp 5) = .iface 173 (.agg #[.int .i64 a]) := hout (.tmp 5) rfl
        clear hdep hout
        refine .inl ⟨rfl, (Gives.val ?_ : Gives _ _ _ (.iface 173 (.agg #[.int .i64 a])) _)⟩
        go_simp
      rcases i with _ | i
      · obtain rfl := Option.some.inj ho
        have e0 : ρ (.tmp 8) = .iface 173 (.agg #[.int .i64 a]) := (hdep ⟨0, .data⟩ (by simp) rfl).1 8 rfl
        have ocn : ∀ v, ρ (.const v) = v := fun v => hout (.const v) rfl
        clear hdep hout
        refine .inl ⟨rfl, (Gives.val ?_ : Gives _ _ _ (.bool true) _)⟩
        go_simp
      rcases i with _ | i
      · obtain rfl := Option.some.inj ho
        have e1 : ρ (.tmp 9) = .bool true := (hdep ⟨1, .data⟩ (by simp) rfl).1 9 rfl
        clear hdep hout
        refine .inl ⟨rfl, (Gives.val ?_ : Gives _ _ _ (.bool true) _)⟩
        go_simp
      rcases i with _ | i
      · obtain rfl := Option.some.inj ho
        have o5 : ρ (.tmp 5) = .iface 173 (.agg #[.int .i64 a]) := hout (.tmp 5) rfl
        have yg : y 2 = some true := (hdep ⟨2, .guard⟩ (by simp) rfl).2 10 rfl
        clear hdep hout
        refine .inl ⟨(by show (y 2 == some true) = true; rw [yg]; rfl), (Gives.val ?_ : Gives _ _ _ (.iface 173 (.agg #[.int .i64 a])) _)⟩
        go_simp
      rcases i with _ | i
      · obtain rfl := Option.some.inj ho
        have o3 : ρ (.tmp 3) = .pointer (some ⟨w.heap.size + 1, 0, none⟩) := hout (.tmp 3) rfl
        have yg : y 2 = some true := (hdep ⟨2, .guard⟩ (by simp) rfl).2 10 rfl
        clear hdep hout
        obtain ⟨n, c0, c1, c2, c3, d0, d1⟩ := KR.out.later hBx
        refine .inl ⟨(by show (y 2 == some true) = true; rw [yg]; rfl), (Gives.val ?_ : Gives _ _ _ (.agg #[.int .i64 p, .int .i64 q]) _)⟩
        go_simp
      rcases i with _ | i
      · obtain rfl := Option.some.inj ho
        have e3 : ρ (.tmp 11) = .iface 173 (.agg #[.int .i64 a]) := (hdep ⟨3, .data⟩ (by simp) rfl).1 11 rfl
        have e4 : ρ (.tmp 12) = .agg #[.int .i64 p, .int .i64 q] := (hdep ⟨4, .data⟩ (by simp) rfl).1 12 rfl
        have yg : y 2 = some true := (hdep ⟨2, .guard⟩ (by simp) rfl).2 10 rfl
        clear hdep hout
        refine .inl ⟨?_, ?_⟩
        · show (y 2 == some true) = true
          rw [yg]; rfl
        show Gives _ _ _ (.bool true) _
        refine Gives.call (HF.out x) ?_
        go_simp
        go_invoke
        go_simp
      rcases i with _ | i
      · obtain rfl := Option.some.inj ho
        have e2 : ρ (.tmp 10) = .bool true := (hdep ⟨2, .data⟩ (by simp) rfl).1 10 rfl
        have e5 : ρ (.tmp 13) = .bool true := (hdep ⟨5, .data⟩ (by simp) rfl).1 13 rfl
        have ocn : ∀ v, ρ (.const v) = v := fun v => hout (.const v) rfl
        clear hdep hout
        refine .inl ⟨rfl, (Gives.val ?_ : Gives _ _ _ (.bool true) _)⟩
        go_simp
      rcases i with _ | i
      · obtain rfl := Option.some.inj ho
        have e6 : ρ (.tmp 14) = .bool true := (hdep ⟨6, .data⟩ (by simp) rfl).1 14 rfl
        clear hdep hout
        refine .inl ⟨rfl, (Gives.val ?_ : Gives _ _ _ (.bool true) _)⟩
        go_simp
      rcases i with _ | i
      · obtain rfl := Option.some.inj ho
        have o2 : ρ (.tmp 2) = .pointer (some ⟨w.heap.size, 0, none⟩) := hout (.tmp 2) rfl
        have yg : y 7 = some true := (hdep ⟨7, .guard⟩ (by simp) rfl).2 15 rfl
        clear hdep hout
        obtain ⟨n, c0, c1, c2, c3, d0, d1⟩ := KR.out.later hBx
        refine .inl ⟨(by show (y 7 == some true) = true; rw [yg]; rfl), (Gives.val ?_ : Gives _ _ _ (.agg #[.int .i64 10, .int .i64 a, .int .i64 b, .int .i64 c]) _)⟩
        go_simp
      rcases i with _ | i
      · obtain rfl := Option.some.inj ho
        have o5 : ρ (.tmp 5) = .iface 173 (.agg #[.int .i64 a]) := hout (.tmp 5) rfl
        have yg : y 7 = some true := (hdep ⟨7, .guard⟩ (by simp) rfl).2 15 rfl
        clear hdep hout
        refine .inl ⟨(by show (y 7 == some true) = true; rw [yg]; rfl), (Gives.val ?_ : Gives _ _ _ (.iface 173 (.agg #[.int .i64 a])) _)⟩
        go_simp
      rcases i with _ | i
      · obtain rfl := Option.some.inj ho
        have e9 : ρ (.tmp 17) = .iface 173 (.agg #[.int .i64 a]) := (hdep ⟨9, .data⟩ (by simp) rfl).1 17 rfl
        have yg : y 7 = some true := (hdep ⟨7, .guard⟩ (by simp) rfl).2 15 rfl
        have ofn : ∀ f, ρ (.func f) = .func (.func f) #[] #[] := fun f => hout (.func f) rfl
        clear hdep hout
        refine .inl ⟨?_, ?_⟩
        · show (y 7 == some true) = true
          rw [yg]; rfl
        show Gives _ _ _ (.string s) _
        refine Gives.call (HL.out x) ?_
        go_simp
      rcases i with _ | i
      · obtain rfl := Option.some.inj ho
        have e8 : ρ (.tmp 16) = .agg #[.int .i64 10, .int .i64 a, .int .i64 b, .int .i64 c] := (hdep ⟨8, .data⟩ (by simp) rfl).1 16 rfl
        have e10 : ρ (.tmp 18) = .string s := (hdep ⟨10, .data⟩ (by simp) rfl).1 18 rfl
        have yg : y 7 = some true := (hdep ⟨7, .guard⟩ (by simp) rfl).2 15 rfl
        have ofn : ∀ f, ρ (.func f) = .func (.func f) #[] #[] := fun f => hout (.func f) rfl
        clear hdep hout
        refine .inl ⟨?_, ?_⟩
        · show (y 7 == some true) = true
          rw [yg]; rfl
        show Gives _ _ _ (.bool r) _
        refine Gives.call (HR.out x) ?_
        go_simp
      rcases i with _ | i
      · obtain rfl := Option.some.inj ho
        have e7 : ρ (.tmp 15) = .bool true := (hdep ⟨7, .data⟩ (by simp) rfl).1 15 rfl
        have e11 : ρ (.tmp 19) = .bool r := (hdep ⟨11, .data⟩ (by simp) rfl).1 19 rfl
        have ocn : ∀ v, ρ (.const v) = v := fun v => hout (.const v) rfl
        clear hdep hout
        refine .inl ⟨rfl, (Gives.val ?_ : Gives _ _ _ (.bool r) _)⟩
        go_simp
      rcases i with _ | i
      · obtain rfl := Option.some.inj ho
        have e12 : ρ (.tmp 20) = .bool r := (hdep ⟨12, .data⟩ (by simp) rfl).1 20 rfl
        clear hdep hout
        refine .inl ⟨rfl, (Gives.val ?_ : Gives _ _ _ (.bool r) _)⟩
        go_simp
      cases ho
    case fin =>
      intro x hBx
      go_wp2_with fail
      go_ret
      exact ⟨rfl, hB1.trans (hBx.mono hB1.size)⟩

set_option maxRecDepth 100000 in
set_option maxHeartbeats 4000000 in
theorem insOk_put (a b c p q : Int) (w : World) : Calls Tryz.prog 57 #[aggI (11, a, b, c), .agg #[.int .i64 p, .int .i64 q]] w fun e w' => e = .returned (.bool (((inI a 0 2 && inI b 0 2)) && restF (lettersF 11) a b c)) ∧ Below w.heap.size w w' := by
  have hl3 := letters_ok 11
  obtain ⟨s, hs⟩ : ∃ s, lettersF 11 = s := ⟨_, rfl⟩
  obtain ⟨f, hf⟩ : ∃ f, ((inI a 0 2 && inI b 0 2)) = f := ⟨_, rfl⟩
  obtain ⟨r, hr⟩ : ∃ r, restF s a b c = r := ⟨_, rfl⟩
  rw [hs] at hl3
  have HF : Hid (∀ x : World, Calls Tryz.prog 191 #[.agg #[.int .i64 a, .int .i64 b], .agg #[.int .i64 p, .int .i64 q]] x fun e w' => e = .returned (.bool f) ∧ Below x.heap.size x w') := fun x => by have := put_fits a b p q x; rw [hf] at this; exact this
  have HL : Hid (∀ x : World, Calls Tryz.prog 81 #[.iface 175 (.agg #[.int .i64 a, .int .i64 b])] x fun e w' => e = .returned (.string s) ∧ Below x.heap.size x w') := fun x => by
    have := lettersOf_any (11, a, b, c) x (by simp) (by simp)
    simp only [ifcF] at this
    refine this.mono ?_
    rintro e w' ⟨rfl, rfl⟩
    exact ⟨by rw [hs], Below.refl _ _⟩
  have HR : Hid (∀ x : World, Calls Tryz.prog 80 #[.agg #[.int .i64 11, .int .i64 a, .int .i64 b, .int .i64 c], .string s] x fun e w' => e = .returned (.bool r) ∧ Below x.heap.size x w') := fun x => by
    have := restIsZero_any 11 a b c s x hl3.1 hl3.2.1 hl3.2.2
    rw [hr] at this
    exact this
  rw [hs, hf, hr]
  clear hs hf hr hl3
  have hA : Below w.heap.size w ((w.alloc (.cells #[.int .i64 11, .int .i64 a, .int .i64 b, .int .i64 c] 104)).alloc (.cells #[.int .i64 p, .int .i64 q] 107)) := by go_grown
  have hR := Rm.new w 11 a b c p q
  unfold aggI
  simp only
  go_enter Tryz.func57, Tryz.ntmps57
  go_wp2_with fail
  refine (instructionOf_any (11, a, b, c) _).mono ?_
  rintro e w1 ⟨rfl, hb1⟩
  have hB1 := hA.trans (hb1.mono (by simp; omega))
  have KR : Hid (Rm w1 w.heap.size 11 a b c p q) := hR.later hb1
  clear hA hR hb1
  simp only [ifcF]
  go_wp2_with fail
  cases f
  · skip
    refine wp_region_vals (by kernel_rfl) (by kernel_rfl) (by kernel_rfl) (by kernel_rfl) (fun j => [.iface 175 (.agg #[.int .i64 a, .int .i64 b]), .bool true, .bool true, .iface 175 (.agg #[.int .i64 a, .int .i64 b]), .agg #[.int .i64 p, .int .i64 q], .bool false, .bool false, .bool false, undef, undef, undef, undef, .bool false, .bool false].getD j undef) w1 (Below.drew (Below.refl _ _)) ?step ⟨#[.agg #[.int .i64 11, .int .i64 a, .int .i64 b, .int .i64 c], .agg #[.int .i64 p, .int .i64 q], .pointer (some ⟨w.heap.size, 0, none⟩), .pointer (some ⟨w.heap.size + 1, 0, none⟩), .bool false, .iface 175 (.agg #[.int .i64 a, .int .i64 b]), .agg #[.int .i64 11, .int .i64 a, .int .i64 b, .int .i64 c], .iface 175 (.agg #[.int .i64 a, .int .i64 b]), .iface 175 (.agg #[.int .i64 a, .int .i64 b]), .bool true, .bool true, .iface 175 (.agg #[.int .i64 a, .int .i64 b]), .agg #[.int .i64 p, .int .i64 q], .bool false, .bool false, .bool false, undef, undef, undef, undef, .bool false], []⟩ (by kernel_rfl) ?fin
    case step =>
      intro i o ho ρ y x hBx hdep hout
      rcases i with _ | i
      · obtain rfl := Option.some.inj ho
        have o5 : ρ (.tmp 5) = .iface 175 (.agg #[.int .i64 a, .int .i64 b]) := hout (.tmp 5) rfl
        clear hdep hout
        refine .inl ⟨rfl, (Gives.val ?_ : Gives _ _ _ (.iface 175 (.agg #[.int .i64 a, .int .i64 b])) _)⟩
        go_simp
      rcases i with _ | i
      · obtain rfl := Option.some.inj ho
        have e0 : ρ (.tmp 8) = .iface 175 (.agg #[.int .i64 a, .int .i64 b]) := (hdep ⟨0, .data⟩ (by simp) rfl).1 8 rfl
        have ocn : ∀ v, ρ (.const v) = v := fun v => hout (.const v) rfl
        clear hdep hout
        refine .inl ⟨rfl, (Gives.val ?_ : Gives _ _ _ (.bool true) _)⟩
        go_simp
      rcases i with _ | i
      · obtain rfl := Option.some.inj ho
        have e1 : ρ (.tmp 9) = .bool true := (hdep ⟨1, .data⟩ (by simp) rfl).1 9 rfl
        clear hdep hout
        refine .inl ⟨rfl, (Gives.val ?_ : Gives _ _ _ (.bool true) _)⟩
        go_simp
      rcases i with _ | i
      · obtain rfl := Option.some.inj ho
        have o5 : ρ (.tmp 5) = .iface 175 (.agg #[.int .i64 a, .int .i64 b]) := hout (.tmp 5) rfl
        have yg : y 2 = some true := (hdep ⟨2, .guard⟩ (by simp) rfl).2 10 rfl
        clear hdep hout
        refine .inl ⟨(by show (y 2 == some true) = true; rw [yg]; rfl), (Gives.val ?_ : Gives _ _ _ (.iface 175 (.agg #[.int .i64 a, .int .i64 b])) _)⟩
        go_simp
      rcases i with _ | i
      · obtain rfl := Option.some.inj ho
        have o3 : ρ (.tmp 3) = .pointer (some ⟨w.heap.size + 1, 0, none⟩) := hout (.tmp 3) rfl
        have yg : y 2 = some true := (hdep ⟨2, .guard⟩ (by simp) rfl).2 10 rfl
        clear hdep hout
        obtain ⟨n, c0, c1, c2, c3, d0, d1⟩ := KR.out.later hBx
        refine .inl ⟨(by show (y 2 == some true) = true; rw [yg]; rfl), (Gives.val ?_ : Gives _ _ _ (.agg #[.int .i64 p, .int .i64 q]) _)⟩
        go_simp
      rcases i with _ | i
      · obtain rfl := Option.some.inj ho
        have e3 : ρ (.tmp 11) = .iface 175 (.agg #[.int .i64 a, .int .i64 b]) := (hdep ⟨3, .data⟩ (by simp) rfl).1 11 rfl
        have e4 : ρ (.tmp 12) = .agg #[.int .i64 p, .int .i64 q] := (hdep ⟨4, .data⟩ (by simp) rfl).1 12 rfl
        have yg : y 2 = some true := (hdep ⟨2, .guard⟩ (by simp) rfl).2 10 rfl
        clear hdep hout
        refine .inl ⟨?_, ?_⟩
        · show (y 2 == some true) = true
          rw [yg]; rfl
        show Gives _ _ _ (.bool false) _
        refine Gives.call (HF.out x) ?_
        go_simp
        go_invoke
        go_simp
      rcases i with _ | i
      · obtain rfl := Option.some.inj ho
        have e2 : ρ (.tmp 10) = .bool true := (hdep ⟨2, .data⟩ (by simp) rfl).1 10 rfl
        have e5 : ρ (.tmp 13) = .bool false := (hdep ⟨5, .data⟩ (by simp) rfl).1 13 rfl
        have ocn : ∀ v, ρ (.const v) = v := fun v => hout (.const v) rfl
        clear hdep hout
        refine .inl ⟨rfl, (Gives.val ?_ : Gives _ _ _ (.bool false) _)⟩
        go_simp
      rcases i with _ | i
      · obtain rfl := Option.some.inj ho
        have e6 : ρ (.tmp 14) = .bool false := (hdep ⟨6, .data⟩ (by simp) rfl).1 14 rfl
        clear hdep hout
        refine .inl ⟨rfl, (Gives.val ?_ : Gives _ _ _ (.bool false) _)⟩
        go_simp
      rcases i with _ | i
      · obtain rfl := Option.some.inj ho
        have yg : y 7 = some false := (hdep ⟨7, .guard⟩ (by simp) rfl).2 15 rfl
        exact .inr ⟨by show (y 7 == some true) = false; rw [yg]; rfl, rfl⟩
      rcases i with _ | i
      · obtain rfl := Option.some.inj ho
        have yg : y 7 = some false := (hdep ⟨7, .guard⟩ (by simp) rfl).2 15 rfl
        exact .inr ⟨by show (y 7 == some true) = false; rw [yg]; rfl, rfl⟩
      rcases i with _ | i
      · obtain rfl := Option.some.inj ho
        have yg : y 7 = some false := (hdep ⟨7, .guard⟩ (by simp) rfl).2 15 rfl
        exact .inr ⟨by show (y 7 == some true) = false; rw [yg]; rfl, rfl⟩
      rcases i with _ | i
      · obtain rfl := Option.some.inj ho
        have yg : y 7 = some false := (hdep ⟨7, .guard⟩ (by simp) rfl).2 15 rfl
        exact .inr ⟨by show (y 7 == some true) = false; rw [yg]; rfl, rfl⟩
      rcases i with _ | i
      · obtain rfl := Option.some.inj ho
        have e7 : ρ (.tmp 15) = .bool false := (hdep ⟨7, .data⟩ (by simp) rfl).1 15 rfl
        have e11 : ρ (.tmp 19) = undef := (hdep ⟨11, .data⟩ (by simp) rfl).1 19 rfl
        have ocn : ∀ v, ρ (.const v) = v := fun v => hout (.const v) rfl
        clear hdep hout
        refine .inl ⟨rfl, (Gives.val ?_ : Gives _ _ _ (.bool false) _)⟩
        go_simp
      rcases i with _ | i
      · obtain rfl := Option.some.inj ho
        have e12 : ρ (.tmp 20) = .bool false := (hdep ⟨12, .data⟩ (by simp) rfl).1 20 rfl
        clear hdep hout
        refine .inl ⟨rfl, (Gives.val ?_ : Gives _ _ _ (.bool false) _)⟩
        go_simp
      cases ho
    case fin =>
      intro x hBx
      go_wp2_with fail
      go_ret
      exact ⟨rfl, hB1.trans (hBx.mono hB1.size)⟩
  · skip
    refine wp_region_vals (by kernel_rfl) (by kernel_rfl) (by kernel_rfl) (by kernel_rfl) (fun j => [.iface 175 (.agg #[.int .i64 a, .int .i64 b]), .bool true, .bool true, .iface 175 (.agg #[.int .i64 a, .int .i64 b]), .agg #[.int .i64 p, .int .i64 q], .bool true, .bool true, .bool true, .agg #[.int .i64 11, .int .i64 a, .int .i64 b, .int .i64 c], .iface 175 (.agg #[.int .i64 a, .int .i64 b]), .string s, .bool r, .bool r, .bool r].getD j undef) w1 (Below.drew (Below.refl _ _)) ?step ⟨#[.agg #[.int .i64 11, .int .i64 a, .int .i64 b, .int .i64 c], .agg #[.int .i64 p, .int .i64 q], .pointer (some ⟨w.heap.size, 0, none⟩), .pointer (some ⟨w.heap.size + 1, 0, none⟩), .bool r, .iface 175 (.agg #[.int .i64 a, .int .i64 b]), .agg #[.int .i64 11, .int .i64 a, .int .i64 b, .int .i64 c], .iface 175 (.agg #[.int .i64 a, .int .i64 b]), .iface 175 (.agg #[.int .i64 a, .int .i64 b]), .bool true, .bool true, .iface 175 (.agg #[.int .i64 a, .int .i64 b]), .agg #[.int .i64 p, .int .i64 q], .bool true, .bool true, .bool true, .agg #[.int .i64 11, .int .i64 a, .int .i64 b, .int .i64 c], .iface 175 (.agg #[.int .i64 a, .int .i64 b]), .string s, .bool r, .bool r], []⟩ (by kernel_rfl) ?fin
    case step =>
      intro i o ho ρ y x hBx hdep hout
      rcases i with _ | i
      · obtain rfl := Option.some.inj ho
        have o5 : ρ (.tmp 5) = .iface 175 (.agg #[.int .i64 a, .int .i64 b]) := hout (.tmp 5) rfl
        clear hdep hout
        refine .inl ⟨rfl, (Gives.val ?_ : Gives _ _ _ (.iface 175 (.agg #[.int .i64 a, .int .i64 b])) _)⟩
        go_simp
      rcases i with _ | i
      · obtain rfl := Option.some.inj ho
        have e0 : ρ (.tmp 8) = .iface 175 (.agg #[.int .i64 a, .int .i64 b]) := (hdep ⟨0, .data⟩ (by simp) rfl).1 8 rfl
        have ocn : ∀ v, ρ (.const v) = v := fun v => hout (.const v) rfl
        clear hdep hout
        refine .inl ⟨rfl, (Gives.val ?_ : Gives _ _ _ (.bool true) _)⟩
        go_simp
      rcases i with _ | i
      · obtain rfl := Option.some.inj ho
        have e1 : ρ (.tmp 9) = .bool true := (hdep ⟨1, .data⟩ (by simp) rfl).1 9 rfl
        clear hdep hout
        refine .inl ⟨rfl, (Gives.val ?_ : Gives _ _ _ (.bool true) _)⟩
        go_simp
      rcases i with _ | i
      · obtain rfl := Option.some.inj ho
        have o5 : ρ (.tmp 5) = .iface 175 (.agg #[.int .i64 a, .int .i64 b]) := hout (.tmp 5) rfl
        have yg : y 2 = some true := (hdep ⟨2, .guard⟩ (by simp) rfl).2 10 rfl
        clear hdep hout
        refine .inl ⟨(by show (y 2 == some true) = true; rw [yg]; rfl), (Gives.val ?_ : Gives _ _ _ (.iface 175 (.agg #[.int .i64 a, .int .i64 b])) _)⟩
        go_simp
      rcases i with _ | i
      · obtain rfl := Option.some.inj ho
        have o3 : ρ (.tmp 3) = .pointer (some ⟨w.heap.size + 1, 0, none⟩) := hout (.tmp 3) rfl
        have yg : y 2 = some true := (hdep ⟨2, .guard⟩ (by simp) rfl).2 10 rfl
        clear hdep hout
        obtain ⟨n, c0, c1, c2, c3, d0, d1⟩ := KR.out.later hBx
        refine .inl ⟨(by show (y 2 == some true) = true; rw [yg]; rfl), (Gives.val ?_ : Gives _ _ _ (.agg #[.int .i64 p, .int .i64 q]) _)⟩
        go_simp
      rcases i with _ | i
      · obtain rfl := Option.some.inj ho
        have e3 : ρ (.tmp 11) = .iface 175 (.agg #[.int .i64 a, .int .i64 b]) := (hdep ⟨3, .data⟩ (by simp) rfl).1 11 rfl
        have e4 : ρ (.tmp 12) = .agg #[.int .i64 p, .int .i64 q] := (hdep ⟨4, .data⟩ (by simp) rfl).1 12 rfl
        have yg : y 2 = some true := (hdep ⟨2, .guard⟩ (by simp) rfl).2 10 rfl
        clear hdep hout
        refine .inl ⟨?_, ?_⟩
        · show (y 2 == some true) = true
          rw [yg]; rfl
        show Gives _ _ _ (.bool true) _
        refine Gives.call (HF.out x) ?_
        go_simp
        go_invoke
        go_simp
      rcases i with _ | i
      · obtain rfl := Option.some.inj ho
        have e2 : ρ (.tmp 10) = .bool true := (hdep ⟨2, .data⟩ (by simp) rfl).1 10 rfl
        have e5 : ρ (.tmp 13) = .bool true := (hdep ⟨5, .data⟩ (by simp) rfl).1 13 rfl
        have ocn : ∀ v, ρ (.const v) = v := fun v => hout (.const v) rfl
        clear hdep hout
        refine .inl ⟨rfl, (Gives.val ?_ : Gives _ _ _ (.bool true) _)⟩
        go_simp
      rcases i with _ | i
      · obtain rfl := Option.some.inj ho
        have e6 : ρ (.tmp 14) = .bool true := (hdep ⟨6, .data⟩ (by simp) rfl).1 14 rfl
        clear hdep hout
        refine .inl ⟨rfl, (Gives.val ?_ : Gives _ _ _ (.bool true) _)⟩
        go_simp
      rcases i with _ | i
      · obtain rfl := Option.some.inj ho
        have o2 : ρ (.tmp 2) = .pointer (some ⟨w.heap.size, 0, none⟩) := hout (.tmp 2) rfl
        have yg : y 7 = some true := (hdep ⟨7, .guard⟩ (by simp) rfl).2 15 rfl
        clear hdep hout
        obtain ⟨n, c0, c1, c2, c3, d0, d1⟩ := KR.out.later hBx
        refine .inl ⟨(by show (y 7 == some true) = true; rw [yg]; rfl), (Gives.val ?_ : Gives _ _ _ (.agg #[.int .i64 11, .int .i64 a, .int .i64 b, .int .i64 c]) _)⟩
        go_simp
      rcases i with _ | i
      · obtain rfl := Option.some.inj ho
        have o5 : ρ (.tmp 5) = .iface 175 (.agg #[.int .i64 a, .int .i64 b]) := hout (.tmp 5) rfl
        have yg : y 7 = some true := (hdep ⟨7, .guard⟩ (by simp) rfl).2 15 rfl
        clear hdep hout
        refine .inl ⟨(by show (y 7 == some true) = true; rw [yg]; rfl), (Gives.val ?_ : Gives _ _ _ (.iface 175 (.agg #[.int .i64 a, .int .i64 b])) _)⟩
        go_simp
      rcases i with _ | i
      · obtain rfl := Option.some.inj ho
        have e9 : ρ (.tmp 17) = .iface 175 (.agg #[.int .i64 a, .int .i64 b]) := (hdep ⟨9, .data⟩ (by simp) rfl).1 17 rfl
        have yg : y 7 = some true := (hdep ⟨7, .guard⟩ (by simp) rfl).2 15 rfl
        have ofn : ∀ f, ρ (.func f) = .func (.func f) #[] #[] := fun f => hout (.func f) rfl
        clear hdep hout
        refine .inl ⟨?_, ?_⟩
        · show (y 7 == some true) = true
          rw [yg]; rfl
        show Gives _ _ _ (.string s) _
        refine Gives.call (HL.out x) ?_
        go_simp
      rcases i with _ | i
      · obtain rfl := Option.some.inj ho
        have e8 : ρ (.tmp 16) = .agg #[.int .i64 11, .int .i64 a, .int .i64 b, .int .i64 c] := (hdep ⟨8, .data⟩ (by simp) rfl).1 16 rfl
        have e10 : ρ (.tmp 18) = .string s := (hdep ⟨10, .data⟩ (by simp) rfl).1 18 rfl
        have yg : y 7 = some true := (hdep ⟨7, .guard⟩ (by simp) rfl).2 15 rfl
        have ofn : ∀ f, ρ (.func f) = .func (.func f) #[] #[] := fun f => hout (.func f) rfl
        clear hdep hout
        refine .inl ⟨?_, ?_⟩
        · show (y 7 == some true) = true
          rw [yg]; rfl
        show Gives _ _ _ (.bool r) _
        refine Gives.call (HR.out x) ?_
        go_simp
      rcases i with _ | i
      · obtain rfl := Option.some.inj ho
        have e7 : ρ (.tmp 15) = .bool true := (hdep ⟨7, .data⟩ (by simp) rfl).1 15 rfl
        have e11 : ρ (.tmp 19) = .bool r := (hdep ⟨11, .data⟩ (by simp) rfl).1 19 rfl
        have ocn : ∀ v, ρ (.const v) = v := fun v => hout (.const v) rfl
        clear hdep hout
        refine .inl ⟨rfl, (Gives.val ?_ : Gives _ _ _ (.bool r) _)⟩
        go_simp
      rcases i with _ | i
      · obtain rfl := Option.some.inj ho
        have e12 : ρ (.tmp 20) = .bool r := (hdep ⟨12, .data⟩ (by simp) rfl).1 20 rfl
        clear hdep hout
        refine .inl ⟨rfl, (Gives.val ?_ : Gives _ _ _ (.bool r) _)⟩
        go_simp
      cases ho
    case fin =>
      intro x hBx
      go_wp2_with fail
      go_ret
      exact ⟨rfl, hB1.trans (hBx.mono hB1.size)⟩

set_option maxRecDepth 100000 in
set_option maxHeartbeats 4000000 in
theorem insOk_get (a b c p q : Int) (w : World) : Calls Tryz.prog 57 #[aggI (12, a, b, c), .agg #[.int .i64 p, .int .i64 q]] w fun e w' => e = .returned (.bool (((inI a 0 2 && inI b 0 2)) && restF (lettersF 12) a b c)) ∧ Below w.heap.size w w' := by
  have hl3 := letters_ok 12
  obtain ⟨s, hs⟩ : ∃ s, lettersF 12 = s := ⟨_, rfl⟩
  obtain ⟨f, hf⟩ : ∃ f, ((inI a 0 2 && inI b 0 2)) = f := ⟨_, rfl⟩
  obtain ⟨r, hr⟩ : ∃ r, restF s a b c = r := ⟨_, rfl⟩
  rw [hs] at hl3
  have HF : Hid (∀ x : World, Calls Tryz.prog 193 #[.agg #[.int .i64 a, .int .i64 b], .agg #[.int .i64 p, .int .i64 q]] x fun e w' => e = .returned (.bool f) ∧ Below x.heap.size x w') := fun x => by have := get_fits a b p q x; rw [hf] at this; exact this
  have HL : Hid (∀ x : World, Calls Tryz.prog 81 #[.iface 177 (.agg #[.int .i64 a, .int .i64 b])] x fun e w' => e = .returned (.string s) ∧ Below x.heap.size x w') := fun x => by
    have := lettersOf_any (12, a, b, c) x (by simp) (by simp)
    simp only [ifcF] at this
    refine this.mono ?_
    rintro e w' ⟨rfl, rfl⟩
    exact ⟨by rw [hs], Below.refl _ _⟩
  have HR : Hid (∀ x : World, Calls Tryz.prog 80 #[.agg #[.int .i64 12, .int .i64 a, .int .i64 b, .int .i64 c], .string s] x fun e w' => e = .returned (.bool r) ∧ Below x.heap.size x w') := fun x => by
    have := restIsZero_any 12 a b c s x hl3.1 hl3.2.1 hl3.2.2
    rw [hr] at this
    exact this
  rw [hs, hf, hr]
  clear hs hf hr hl3
  have hA : Below w.heap.size w ((w.alloc (.cells #[.int .i64 12, .int .i64 a, .int .i64 b, .int .i64 c] 104)).alloc (.cells #[.int .i64 p, .int .i64 q] 107)) := by go_grown
  have hR := Rm.new w 12 a b c p q
  unfold aggI
  simp only
  go_enter Tryz.func57, Tryz.ntmps57
  go_wp2_with fail
  refine (instructionOf_any (12, a, b, c) _).mono ?_
  rintro e w1 ⟨rfl, hb1⟩
  have hB1 := hA.trans (hb1.mono (by simp; omega))
  have KR : Hid (Rm w1 w.heap.size 12 a b c p q) := hR.later hb1
  clear hA hR hb1
  simp only [ifcF]
  go_wp2_with fail
  cases f
  · skip
    refine wp_region_vals (by kernel_rfl) (by kernel_rfl) (by kernel_rfl) (by kernel_rfl) (fun j => [.iface 177 (.agg #[.int .i64 a, .int .i64 b]), .bool true, .bool true, .iface 177 (.agg #[.int .i64 a, .int .i64 b]), .agg #[.int .i64 p, .int .i64 q], .bool false, .bool false, .bool false, undef, undef, undef, undef, .bool false, .bool false].getD j undef) w1 (Below.drew (Below.refl _ _)) ?step ⟨#[.agg #[.int .i64 12, .int .i64 a, .int .i64 b, .int .i64 c], .agg #[.int .i64 p, .int .i64 q], .pointer (some ⟨w.heap.size, 0, none⟩), .pointer (some ⟨w.heap.size + 1, 0, none⟩), .bool false, .iface 177 (.agg #[.int .i64 a, .int .i64 b]), .agg #[.int .i64 12, .int .i64 a, .int .i64 b, .int .i64 c], .iface 177 (.agg #[.int .i64 a, .int .i64 b]), .iface 177 (.agg #[.int .i64 a, .int .i64 b]), .bool true, .bool true, .iface 177 (.agg #[.int .i64 a, .int .i64 b]), .agg #[.int .i64 p, .int .i64 q], .bool false, .bool false, .bool false, undef, undef, undef, undef, .bool false], []⟩ (by kernel_rfl) ?fin
    case step =>
      intro i o ho ρ y x hBx hdep hout
      rcases i with _ | i
      · obtain rfl := Option.some.inj ho
        have o5 : ρ (.tmp 5) = .iface 177 (.agg #[.int .i64 a, .int .i64 b]) := hout (.tmp 5) rfl
        clear hdep hout
        refine .inl ⟨rfl, (Gives.val ?_ : Gives _ _ _ (.iface 177 (.agg #[.int .i64 a, .int .i64 b])) _)⟩
        go_simp
      rcases i with _ | i
      · obtain rfl := Option.some.inj ho
        have e0 : ρ (.tmp 8) = .iface 177 (.agg #[.int .i64 a, .int .i64 b]) := (hdep ⟨0, .data⟩ (by simp) rfl).1 8 rfl
        have ocn : ∀ v, ρ (.const v) = v := fun v => hout (.const v) rfl
        clear hdep hout
        refine .inl ⟨rfl, (Gives.val ?_ : Gives _ _ _ (.bool true) _)⟩
        go_simp
      rcases i with _ | i
      · obtain rfl := Option.some.inj ho
        have e1 : ρ (.tmp 9) = .bool true := (hdep ⟨1, .data⟩ (by simp) rfl).1 9 rfl
        clear hdep hout
        refine .inl ⟨rfl, (Gives.val ?_ : Gives _ _ _ (.bool true) _)⟩
        go_simp
      rcases i with _ | i
      · obtain rfl := Option.some.inj ho
        have o5 : ρ (.tmp 5) = .iface 177 (.agg #[.int .i64 a, .int .i64 b]) := hout (.tmp 5) rfl
        have yg : y 2 = some true := (hdep ⟨2, .guard⟩ (by simp) rfl).2 10 rfl
        clear hdep hout
        refine .inl ⟨(by show (y 2 == some true) = true; rw [yg]; rfl), (Gives.val ?_ : Gives _ _ _ (.iface 177 (.agg #[.int .i64 a, .int .i64 b])) _)⟩
        go_simp
      rcases i with _ | i
      · obtain rfl := Option.some.inj ho
        have o3 : ρ (.tmp 3) = .pointer (some ⟨w.heap.size + 1, 0, none⟩) := hout (.tmp 3) rfl
        have yg : y 2 = some true := (hdep ⟨2, .guard⟩ (by simp) rfl).2 10 rfl
        clear hdep hout
        obtain ⟨n, c0, c1, c2, c3, d0, d1⟩ := KR.out.later hBx
        refine .inl ⟨(by show (y 2 == some true) = true; rw [yg]; rfl), (Gives.val ?_ : Gives _ _ _ (.agg #[.int .i64 p, .int .i64 q]) _)⟩
        go_simp
      rcases i with _ | i
      · obtain rfl := Option.some.inj ho
        have e3 : ρ (.tmp 11) = .iface 177 (.agg #[.int .i64 a, .int .i64 b]) := (hdep ⟨3, .data⟩ (by simp) rfl).1 11 rfl
        have e4 : ρ (.tmp 12) = .agg #[.int .i64 p, .int .i64 q] := (hdep ⟨4, .data⟩ (by simp) rfl).1 12 rfl
        have yg : y 2 = some true := (hdep ⟨2, .guard⟩ (by simp) rfl).2 10 rfl
        clear hdep hout
        refine .inl ⟨?_, ?_⟩
        · show (y 2 == some true) = true
          rw [yg]; rfl
        show Gives _ _ _ (.bool false) _
        refine Gives.call (HF.out x) ?_
        go_simp
        go_invoke
        go_simp
      rcases i with _ | i
      · obtain rfl := Option.some.inj ho
        have e2 : ρ (.tmp 10) = .bool true := (hdep ⟨2, .data⟩ (by simp) rfl).1 10 rfl
        have e5 : ρ (.tmp 13) = .bool false := (hdep ⟨5, .data⟩ (by simp) rfl).1 13 rfl
        have ocn : ∀ v, ρ (.const v) = v := fun v => hout (.const v) rfl
        clear hdep hout
        refine .inl ⟨rfl, (Gives.val ?_ : Gives _ _ _ (.bool false) _)⟩
        go_simp
      rcases i with _ | i
      · obtain rfl := Option.some.inj ho
        have e6 : ρ (.tmp 14) = .bool false := (hdep ⟨6, .data⟩ (by simp) rfl).1 14 rfl
        clear hdep hout
        refine .inl ⟨rfl, (Gives.val ?_ : Gives _ _ _ (.bool false) _)⟩
        go_simp
      rcases i with _ | i
      · obtain rfl := Option.some.inj ho
        have yg : y 7 = some false := (hdep ⟨7, .guard⟩ (by simp) rfl).2 15 rfl
        exact .inr ⟨by show (y 7 == some true) = false; rw [yg]; rfl, rfl⟩
      rcases i with _ | i
      · obtain rfl := Option.some.inj ho
        have yg : y 7 = some false := (hdep ⟨7, .guard⟩ (by simp) rfl).2 15 rfl
        exact .inr ⟨by show (y 7 == some true) = false; rw [yg]; rfl, rfl⟩
      rcases i with _ | i
      · obtain rfl := Option.some.inj ho
        have yg : y 7 = some false := (hdep ⟨7, .guard⟩ (by simp) rfl).2 15 rfl
        exact .inr ⟨by show (y 7 == some true) = false; rw [yg]; rfl, rfl⟩
      rcases i with _ | i
      · obtain rfl := Option.some.inj ho
        have yg : y 7 = some false := (hdep ⟨7, .guard⟩ (by simp) rfl).2 15 rfl
        exact .inr ⟨by show (y 7 == some true) = false; rw [yg]; rfl, rfl⟩
      rcases i with _ | i
      · obtain rfl := Option.some.inj ho
        have e7 : ρ (.tmp 15) = .bool false := (hdep ⟨7, .data⟩ (by simp) rfl).1 15 rfl
        have e11 : ρ (.tmp 19) = undef := (hdep ⟨11, .data⟩ (by simp) rfl).1 19 rfl
        have ocn : ∀ v, ρ (.const v) = v := fun v => hout (.const v) rfl
        clear hdep hout
        refine .inl ⟨rfl, (Gives.val ?_ : Gives _ _ _ (.bool false) _)⟩
        go_simp
      rcases i with _ | i
      · obtain rfl := Option.some.inj ho
        have e12 : ρ (.tmp 20) = .bool false := (hdep ⟨12, .data⟩ (by simp) rfl).1 20 rfl
        clear hdep hout
        refine .inl ⟨rfl, (Gives.val ?_ : Gives _ _ _ (.bool false) _)⟩
        go_simp
      cases ho
    case fin =>
      intro x hBx
      go_wp2_with fail
      go_ret
      exact ⟨rfl, hB1.trans (hBx.mono hB1.size)⟩
  · skip
    refine wp_region_vals (by kernel_rfl) (by kernel_rfl) (by kernel_rfl) (by kernel_rfl) (fun j => [.iface 177 (.agg #[.int .i64 a, .int .i64 b]), .bool true, .bool true, .iface 177 (.agg #[.int .i64 a, .int .i64 b]), .agg #[.int .i64 p, .int .i64 q], .bool true, .bool true, .bool true, .agg #[.int .i64 12, .int .i64 a, .int .i64 b, .int .i64 c], .iface 177 (.agg #[.int .i64 a, .int .i64 b]), .string s, .bool r, .bool r, .bool r].getD j undef) w1 (Below.drew (Below.refl _ _)) ?step ⟨#[.agg #[.int .i64 12, .int .i64 a, .int .i64 b, .int .i64 c], .agg #[.int .i64 p, .int .i64 q], .pointer (some ⟨w.heap.size, 0, none⟩), .pointer (some ⟨w.heap.size + 1, 0, none⟩), .bool r, .iface 177 (.agg #[.int .i64 a, .int .i64 b]), .agg #[.int .i64 12, .int .i64 a, .int .i64 b, .int .i64 c], .iface 177 (.agg #[.int .i64 a, .int .i64 b]), .iface 177 (.agg #[.int .i64 a, .int .i64 b]), .bool true, .bool true, .iface 177 (.agg #[.int .i64 a, .int .i64 b]), .agg #[.int .i64 p, .int .i64 q], .bool true, .bool true, .bool true, .agg #[.int .i64 12, .int .i64 a, .int .i64 b, .int .i64 c], .iface 177 (.agg #[.int .i64 a, .int .i64 b]), .string s, .bool r, .bool r], []⟩ (by kernel_rfl) ?fin
    case step =>
      intro i o ho ρ y x hBx hdep hout
      rcases i with _ | i
      · obtain rfl := Option.some.inj ho
        have o5 : ρ (.tmp 5) = .iface 177 (.agg #[.int .i64 a, .int .i64 b]) := hout (.tmp 5) rfl
        clear hdep hout
        refine .inl ⟨rfl, (Gives.val ?_ : Gives _ _ _ (.iface 177 (.agg #[.int .i64 a, .int .i64 b])) _)⟩
        go_simp
      rcases i with _ | i
      · obtain rfl := Option.some.inj ho
        have e0 : ρ (.tmp 8) = .iface 177 (.agg #[.int .i64 a, .int .i64 b]) := (hdep ⟨0, .data⟩ (by simp) rfl).1 8 rfl
        have ocn : ∀ v, ρ (.const v) = v := fun v => hout (.const v) rfl
        clear hdep hout
        refine .inl ⟨rfl, (Gives.val ?_ : Gives _ _ _ (.bool true) _)⟩
        go_simp
      rcases i with _ | i
      · obtain rfl := Option.some.inj ho
        have e1 : ρ (.tmp 9) = .bool true := (hdep ⟨1, .data⟩ (by simp) rfl).1 9 rfl
        clear hdep hout
        refine .inl ⟨rfl, (Gives.val ?_ : Gives _ _ _ (.bool true) _)⟩
        go_simp
      rcases i with _ | i
      · obtain rfl := Option.some.inj ho
        have o5 : ρ (.tmp 5) = .iface 177 (.agg #[.int .i64 a, .int .i64 b]) := hout (.tmp 5) rfl
        have yg : y 2 = some true := (hdep ⟨2, .guard⟩ (by simp) rfl).2 10 rfl
        clear hdep hout
        refine .inl ⟨(by show (y 2 == some true) = true; rw [yg]; rfl), (Gives.val ?_ : Gives _ _ _ (.iface 177 (.agg #[.int .i64 a, .int .i64 b])) _)⟩
        go_simp
      rcases i with _ | i
      · obtain rfl := Option.some.inj ho
        have o3 : ρ (.tmp 3) = .pointer (some ⟨w.heap.size + 1, 0, none⟩) := hout (.tmp 3) rfl
        have yg : y 2 = some true := (hdep ⟨2, .guard⟩ (by simp) rfl).2 10 rfl
        clear hdep hout
        obtain ⟨n, c0, c1, c2, c3, d0, d1⟩ := KR.out.later hBx
        refine .inl ⟨(by show (y 2 == some true) = true; rw [yg]; rfl), (Gives.val ?_ : Gives _ _ _ (.agg #[.int .i64 p, .int .i64 q]) _)⟩
        go_simp
      rcases i with _ | i
      · obtain rfl := Option.some.inj ho
        have e3 : ρ (.tmp 11) = .iface 177 (.agg #[.int .i64 a, .int .i64 b]) := (hdep ⟨3, .data⟩ (by simp) rfl).1 11 rfl
        have e4 : ρ (.tmp 12) = .agg #[.int .i64 p, .int .i64 q] := (hdep ⟨4, .data⟩ (by simp) rfl).1 12 rfl
        have yg : y 2 = some true := (hdep ⟨2, .guard⟩ (by simp) rfl).2 10 rfl
        clear hdep hout
        refine .inl ⟨?_, ?_⟩
        · show (y 2 == some true) = true
          rw [yg]; rfl
        show Gives _ _ _ (.bool true) _
        refine Gives.call (HF.out x) ?_
        go_simp
        go_invoke
        go_simp
      rcases i with _ | i
      · obtain rfl := Option.some.inj ho
        have e2 : ρ (.tmp 10) = .bool true := (hdep ⟨2, .data⟩ (by simp) rfl).1 10 rfl
        have e5 : ρ (.tmp 13) = .bool true := (hdep ⟨5, .data⟩ (by simp) rfl).1 13 rfl
        have ocn : ∀ v, ρ (.const v) = v := fun v => hout (.const v) rfl
        clear hdep hout
        refine .inl ⟨rfl, (Gives.val ?_ : Gives _ _ _ (.bool true) _)⟩
        go_simp
      rcases i with _ | i
      · obtain rfl := Option.some.inj ho
        have e6 : ρ (.tmp 14) = .bool true := (hdep ⟨6, .data⟩ (by simp) rfl).1 14 rfl
        clear hdep hout
        refine .inl ⟨rfl, (Gives.val ?_ : Gives _ _ _ (.bool true) _)⟩
        go_simp
      rcases i with _ | i
      · obtain rfl := Option.some.inj ho
        have o2 : ρ (.tmp 2) = .pointer (some ⟨w.heap.size, 0, none⟩) := hout (.tmp 2) rfl
        have yg : y 7 = some true := (hdep ⟨7, .guard⟩ (by simp) rfl).2 15 rfl
        clear hdep hout
        obtain ⟨n, c0, c1, c2, c3, d0, d1⟩ := KR.out.later hBx
        refine .inl ⟨(by show (y 7 == some true) = true; rw [yg]; rfl), (Gives.val ?_ : Gives _ _ _ (.agg #[.int .i64 12, .int .i64 a, .int .i64 b, .int .i64 c]) _)⟩
        go_simp
      rcases i with _ | i
      · obtain rfl := Option.some.inj ho
        have o5 : ρ (.tmp 5) = .iface 177 (.agg #[.int .i64 a, .int .i64 b]) := hout (.tmp 5) rfl
        have yg : y 7 = some true := (hdep ⟨7, .guard⟩ (by simp) rfl).2 15 rfl
        clear hdep hout
        refine .inl ⟨(by show (y 7 == some true) = true; rw [yg]; rfl), (Gives.val ?_ : Gives _ _ _ (.iface 177 (.agg #[.int .i64 a, .int .i64 b])) _)⟩
        go_simp
      rcases i with _ | i
      · obtain rfl := Option.some.inj ho
        have e9 : ρ (.tmp 17) = .iface 177 (.agg #[.int .i64 a, .int .i64 b]) := (hdep ⟨9, .data⟩ (by simp) rfl).1 17 rfl
        have yg : y 7 = some true := (hdep ⟨7, .guard⟩ (by simp) rfl).2 15 rfl
        have ofn : ∀ f, ρ (.func f) = .func (.func f) #[] #[] := fun f => hout (.func f) rfl
        clear hdep hout
        refine .inl ⟨?_, ?_⟩
        · show (y 7 == some true) = true
          rw [yg]; rfl
        show Gives _ _ _ (.string s) _
        refine Gives.call (HL.out x) ?_
        go_simp
      rcases i with _ | i
      · obtain rfl := Option.some.inj ho
        have e8 : ρ (.tmp 16) = .agg #[.int .i64 12, .int .i64 a, .int .i64 b, .int .i64 c] := (hdep ⟨8, .data⟩ (by simp) rfl).1 16 rfl
        have e10 : ρ (.tmp 18) = .string s := (hdep ⟨10, .data⟩ (by simp) rfl).1 18 rfl
        have yg : y 7 = some true := (hdep ⟨7, .guard⟩ (by simp) rfl).2 15 rfl
        have ofn : ∀ f, ρ (.func f) = .func (.func f) #[] #[] := fun f => hout (.func f) rfl
        clear hdep hout
        refine .inl ⟨?_, ?_⟩
        · show (y 7 == some true) = true
          rw [yg]; rfl
        show Gives _ _ _ (.bool r) _
        refine Gives.call (HR.out x) ?_
        go_simp
      rcases i with _ | i
      · obtain rfl := Option.some.inj ho
        have e7 : ρ (.tmp 15) = .bool true := (hdep ⟨7, .data⟩ (by simp) rfl).1 15 rfl
        have e11 : ρ (.tmp 19) = .bool r := (hdep ⟨11, .data⟩ (by simp) rfl).1 19 rfl
        have ocn : ∀ v, ρ (.const v) = v := fun v => hout (.const v) rfl
        clear hdep hout
        refine .inl ⟨rfl, (Gives.val ?_ : Gives _ _ _ (.bool r) _)⟩
        go_simp
      rcases i with _ | i
      · obtain rfl := Option.some.inj ho
        have e12 : ρ (.tmp 20) = .bool r := (hdep ⟨12, .data⟩ (by simp) rfl).1 20 rfl
        clear hdep hout
        refine .inl ⟨rfl, (Gives.val ?_ : Gives _ _ _ (.bool r) _)⟩
        go_simp
      cases ho
    case fin =>
      intro x hBx
      go_wp2_with fail
      go_ret
      exact ⟨rfl, hB1.trans (hBx.mono hB1.size)⟩

set_option maxRecDepth 100000 in
set_option maxHeartbeats 4000000 in
theorem insOk_nil (k a b c p q : Int) (w : World) (hk : ifcF (k, a, b, c) = .nilIface) : Calls Tryz.prog 57 #[aggI (k, a, b, c), .agg #[.int .i64 p, .int .i64 q]] w fun e w' => e = .returned (.bool false) ∧ Below w.heap.size w w' := by
  have hA : Below w.heap.size w ((w.alloc (.cells #[.int .i64 k, .int .i64 a, .int .i64 b, .int .i64 c] 104)).alloc (.cells #[.int .i64 p, .int .i64 q] 107)) := by go_grown
  unfold aggI
  simp only
  go_enter Tryz.func57, Tryz.ntmps57
  go_wp2_with fail
  refine (instructionOf_any (k, a, b, c) _).mono ?_
  rintro e w1 ⟨rfl, hb1⟩
  have hB1 := hA.trans (hb1.mono (by simp; omega))
  clear hA hb1
  rw [hk]
  go_wp2_with fail
  refine wp_region_vals (by kernel_rfl) (by kernel_rfl) (by kernel_rfl) (by kernel_rfl) (fun j => [.nilIface, .bool false, .bool false, undef, undef, undef, .bool false, .bool false, undef, undef, undef, undef, .bool false, .bool false].getD j undef) w1 (Below.drew (Below.refl _ _)) ?step ⟨#[.agg #[.int .i64 k, .int .i64 a, .int .i64 b, .int .i64 c], .agg #[.int .i64 p, .int .i64 q], .pointer (some ⟨w.heap.size, 0, none⟩), .pointer (some ⟨w.heap.size + 1, 0, none⟩), .bool false, .nilIface, .agg #[.int .i64 k, .int .i64 a, .int .i64 b, .int .i64 c], .nilIface, .nilIface, .bool false, .bool false, undef, undef, undef, .bool false, .bool false, undef, undef, undef, undef, .bool false], []⟩ (by kernel_rfl) ?fin
  case step =>
    intro i o ho ρ y x hBx hdep hout
    rcases i with _ | i
    · obtain rfl := Option.some.inj ho
      have o5 : ρ (.tmp 5) = .nilIface := hout (.tmp 5) rfl
      clear hdep hout
      refine .inl ⟨rfl, (Gives.val ?_ : Gives _ _ _ (.nilIface) _)⟩
      go_simp
    rcases i with _ | i
    · obtain rfl := Option.some.inj ho
      have e0 : ρ (.tmp 8) = .nilIface := (hdep ⟨0, .data⟩ (by simp) rfl).1 8 rfl
      have ocn : ∀ v, ρ (.const v) = v := fun v => hout (.const v) rfl
      clear hdep hout
      refine .inl ⟨rfl, (Gives.val ?_ : Gives _ _ _ (.bool false) _)⟩
      go_simp
    rcases i with _ | i
    · obtain rfl := Option.some.inj ho
      have e1 : ρ (.tmp 9) = .bool false := (hdep ⟨1, .data⟩ (by simp) rfl).1 9 rfl
      clear hdep hout
      refine .inl ⟨rfl, (Gives.val ?_ : Gives _ _ _ (.bool false) _)⟩
      go_simp
    rcases i with _ | i
    · obtain rfl := Option.some.inj ho
      have yg : y 2 = some false := (hdep ⟨2, .guard⟩ (by simp) rfl).2 10 rfl
      exact .inr ⟨by show (y 2 == some true) = false; rw [yg]; rfl, rfl⟩
    rcases i with _ | i
    · obtain rfl := Option.some.inj ho
      have yg : y 2 = some false := (hdep ⟨2, .guard⟩ (by simp) rfl).2 10 rfl
      exact .inr ⟨by show (y 2 == some true) = false; rw [yg]; rfl, rfl⟩
    rcases i with _ | i
    · obtain rfl := Option.some.inj ho
      have yg : y 2 = some false := (hdep ⟨2, .guard⟩ (by simp) rfl).2 10 rfl
      exact .inr ⟨by show (y 2 == some true) = false; rw [yg]; rfl, rfl⟩
    rcases i with _ | i
    · obtain rfl := Option.some.inj ho
      have e2 : ρ (.tmp 10) = .bool false := (hdep ⟨2, .data⟩ (by simp) rfl).1 10 rfl
      have e5 : ρ (.tmp 13) = undef := (hdep ⟨5, .data⟩ (by simp) rfl).1 13 rfl
      have ocn : ∀ v, ρ (.const v) = v := fun v => hout (.const v) rfl
      clear hdep hout
      refine .inl ⟨rfl, (Gives.val ?_ : Gives _ _ _ (.bool false) _)⟩
      go_simp
    rcases i with _ | i
    · obtain rfl := Option.some.inj ho
      have e6 : ρ (.tmp 14) = .bool false := (hdep ⟨6, .data⟩ (by simp) rfl).1 14 rfl
      clear hdep hout
      refine .inl ⟨rfl, (Gives.val ?_ : Gives _ _ _ (.bool false) _)⟩
      go_simp
    rcases i with _ | i
    · obtain rfl := Option.some.inj ho
      have yg : y 7 = some false := (hdep ⟨7, .guard⟩ (by simp) rfl).2 15 rfl
      exact .inr ⟨by show (y 7 == some true) = false; rw [yg]; rfl, rfl⟩
    rcases i with _ | i
    · obtain rfl := Option.some.inj ho
      have yg : y 7 = some false := (hdep ⟨7, .guard⟩ (by simp) rfl).2 15 rfl
      exact .inr ⟨by show (y 7 == some true) = false; rw [yg]; rfl, rfl⟩
    rcases i with _ | i
    · obtain rfl := Option.some.inj ho
      have yg : y 7 = some false := (hdep ⟨7, .guard⟩ (by simp) rfl).2 15 rfl
      exact .inr ⟨by show (y 7 == some true) = false; rw [yg]; rfl, rfl⟩
    rcases i with _ | i
    · obtain rfl := Option.some.inj ho
      have yg : y 7 = some false := (hdep ⟨7, .guard⟩ (by simp) rfl).2 15 rfl
      exact .inr ⟨by show (y 7 == some true) = false; rw [yg]; rfl, rfl⟩
    rcases i with _ | i
    · obtain rfl := Option.some.inj ho
      have e7 : ρ (.tmp 15) = .bool false := (hdep ⟨7, .data⟩ (by simp) rfl).1 15 rfl
      have e11 : ρ (.tmp 19) = undef := (hdep ⟨11, .data⟩ (by simp) rfl).1 19 rfl
      have ocn : ∀ v, ρ (.const v) = v := fun v => hout (.const v) rfl
      clear hdep hout
      refine .inl ⟨rfl, (Gives.val ?_ : Gives _ _ _ (.bool false) _)⟩
      go_simp
    rcases i with _ | i
    · obtain rfl := Option.some.inj ho
      have e12 : ρ (.tmp 20) = .bool false := (hdep ⟨12, .data⟩ (by simp) rfl).1 20 rfl
      clear hdep hout
      refine .inl ⟨rfl, (Gives.val ?_ : Gives _ _ _ (.bool false) _)⟩
      go_simp
    cases ho
  case fin =>
    intro x hBx
    go_wp2_with fail
    go_ret
    exact ⟨rfl, hB1.trans (hBx.mono hB1.size)⟩
end Go.Proofs.YtlkebkajdlgebaaGreat

/-
  Whether an instruction is ok, as the program says it: of every kind.
-/
namespace Go.Proofs.YtlkebkajdlgebaaGreat
open Go.RowKit
set_option linter.unusedVariables false
set_option linter.unusedSimpArgs false

theorem insOk_any (i : I4) (p q : Int) (w : World) : Calls Tryz.prog 57 #[aggI i, .agg #[.int .i64 p, .int .i64 q]] w fun e w' => e = .returned (.bool (insOkF i q p)) ∧ Below w.heap.size w w' := by
  by_cases hK : 1 ≤ i.1 ∧ i.1 ≤ 12
  · rw [← fits_ok i p q hK.1 hK.2]
    obtain ⟨K, a, b, c⟩ := i
    simp only at hK
    obtain rfl | rfl | rfl | rfl | rfl | rfl | rfl | rfl | rfl | rfl | rfl | rfl : K = 1 ∨ K = 2 ∨ K = 3 ∨ K = 4 ∨ K = 5 ∨ K = 6 ∨ K = 7 ∨ K = 8 ∨ K = 9 ∨ K = 10 ∨ K = 11 ∨ K = 12 := by omega
    · exact insOk_set a b c p q w
    · exact insOk_move a b c p q w
    · exact insOk_ask a b c p q w
    · exact insOk_do a b c p q w
    · exact insOk_go a b c p q w
    · exact insOk_less a b c p q w
    · exact insOk_same a b c p q w
    · exact insOk_call a b c p q w
    · exact insOk_back a b c p q w
    · exact insOk_hold a b c p q w
    · exact insOk_put a b c p q w
    · exact insOk_get a b c p q w
  · obtain ⟨K, a, b, c⟩ := i
    have n0 : ∀ m : Int, 1 ≤ m → m ≤ 12 → ¬ K = m := fun m h1 h2 h3 => hK ⟨by simp only; omega, by simp only; omega⟩
    have hr : insOkF (K, a, b, c) q p = false := by
      simp [insOkF, n0 1 (by omega) (by omega), n0 2 (by omega) (by omega), n0 3 (by omega) (by omega), n0 4 (by omega) (by omega), n0 5 (by omega) (by omega), n0 6 (by omega) (by omega), n0 7 (by omega) (by omega), n0 8 (by omega) (by omega), n0 9 (by omega) (by omega), n0 10 (by omega) (by omega), n0 11 (by omega) (by omega), n0 12 (by omega) (by omega)]
    rw [hr]
    refine insOk_nil K a b c p q w ?_
    simp only [ifcF, n0 1 (by omega) (by omega), n0 2 (by omega) (by omega), n0 3 (by omega) (by omega), n0 4 (by omega) (by omega), n0 5 (by omega) (by omega), n0 6 (by omega) (by omega), n0 7 (by omega) (by omega), n0 8 (by omega) (by omega), n0 9 (by omega) (by omega), n0 10 (by omega) (by omega), n0 11 (by omega) (by omega), n0 12 (by omega) (by omega), if_false]

end Go.Proofs.YtlkebkajdlgebaaGreat

/-
  The contract of the program's ProgOk.
-/
namespace Go.Proofs.YtlkebkajdlgebaaGreat
open Go.RowKit
set_option linter.unusedVariables false
set_option linter.unusedSimpArgs false
set_option maxHeartbeats 4000000 in
theorem progOk_impl_in (x : World) (B : Nat) (v : Value) (P : List (List I4)) (h : ProgAt x B v P) (h1 : 1 ≤ P.length) (h4 : P.length ≤ 4) :
    Calls Tryz.prog 35 #[v] x fun e y => e = .returned (.bool (P.all fun c => codeOkF c P.length)) ∧ Below x.heap.size x y := by
  obtain ⟨p, cap, rfl, hm, hc⟩ := h
  rcases hc with h0 | ⟨g, o, rfl, hBg, hgx, hins⟩
  · omega
  have HX : Hid (∀ j, j < P.length → ∃ u, x.cell? ⟨g, o + j, none⟩ = some u ∧ CodeAt x B u (P.getD j [])) := hins
  clear hins hm
  generalize hL : P.length = n at *
  have HL : Hid (P.length = n) := hL
  clear hL
  have hn1 : ¬ (n : Int) < 1 := by omega
  have hn4 : ¬ (4 : Int) < (n : Int) := by omega
  go_enter Tryz.func35, Tryz.ntmps35
  go_wp2_with fail
  go_loopw [17] (fun t y => ∃ k : Nat, k ≤ n ∧ t = .int .i64 k ∧ (P.take k).all (fun c => codeOkF c n) = true ∧ Below x.heap.size x y) (fun t _ => n - (intOf t).toNat)
  case atStart => exact ⟨0, by omega, rfl, by simp, Below.refl _ _⟩
  case round =>
    obtain ⟨k, hk, rfl, hall, hB⟩ := hrel
    have HAL : Hid ((P.take k).all (fun c => codeOkF c n) = true) := hall
    clear hall
    by_cases hlt : k < n
    · have hki : (k : Int) < (n : Int) := by omega
      obtain ⟨uk, cu, hcu⟩ := HX.out k hlt
      have hst := all_take (fun c => codeOkF c n) P [] k (by rw [HL.out]; exact hlt)
      have hfl := all_false (fun c => codeOkF c n) P [] k (by rw [HL.out]; exact hlt)
      rw [HAL.out, Bool.true_and] at hst
      generalize P.getD k [] = C at hst hfl hcu
      have HST : Hid ((P.take (k + 1)).all (fun c => codeOkF c n) = codeOkF C n) := hst
      have HFL : Hid (codeOkF C n = false → P.all (fun c => codeOkF c n) = false) := hfl
      clear hst hfl HAL
      obtain ⟨pk, ck, rfl, hmk, hck⟩ := hcu
      have d0 := (hB.cell (p := ⟨g, o + k, none⟩) hgx).trans cu
      clear cu
      have hgw : g < wr.heap.size := Nat.lt_of_lt_of_le hgx hB.size
      by_cases h8 : C.length ≤ 8
      · have h8i : ¬ (8 : Int) < (C.length : Int) := by omega
        clear hmk
        go_wp2_with fail
        have hX1 : (wr.alloc (.cells #[.slice pk C.length ck] 74)).heap.size = wr.heap.size + 1 := by simp
        have hXB : Below wr.heap.size wr (wr.alloc (.cells #[.slice pk C.length ck] 74)) := (Below.refl _ _).alloc (Nat.le_refl _) _
        have hXc : (wr.alloc (.cells #[.slice pk C.length ck] 74)).cell? ⟨wr.heap.size, 0, none⟩ = some (.slice pk C.length ck) := by simp [go_sem]
        generalize hXX : wr.alloc (.cells #[.slice pk C.length ck] 74) = X at *
        clear hXX
        have hBX := hB.trans (hXB.mono hB.size)
        have HBX : Hid (Below x.heap.size x X) := hBX
        have HXC : Hid (X.cell? ⟨wr.heap.size, 0, none⟩ = some (.slice pk C.length ck)) := hXc
        have hwX : wr.heap.size < X.heap.size := by omega
        clear hXB hX1 d0 hgw
        go_loopw [28] (fun t y => ∃ j : Nat, j ≤ C.length ∧ t = .int .i64 j ∧ (C.take j).all (fun i => insOkF i C.length n) = true ∧ Below X.heap.size X y) (fun t _ => C.length - (intOf t).toNat)
        case atStart => exact ⟨0, by omega, rfl, by simp, Below.refl _ _⟩
        case round =>
          clear hBX hXc
          obtain ⟨j, hj, rfl, hall, hBj⟩ := hrel
          rename World => wj
          have HAJ : Hid ((C.take j).all (fun i => insOkF i C.length n) = true) := hall
          clear hall
          have hBj2 := HBX.out.trans (hBj.mono HBX.out.size)
          have HBJ : Hid (Below x.heap.size x wj) := hBj2
          have d0 := (hBj.cell (p := ⟨wr.heap.size, 0, none⟩) hwX).trans HXC.out
          have hwj : wr.heap.size < wj.heap.size := Nat.lt_of_lt_of_le hwX hBj.size
          clear hBj2
          by_cases hjl : j < C.length
          · rcases hck with h0 | ⟨g2, o2, rfl, hB2, hg2, hi4⟩
            · omega
            have hji : (j : Int) < (C.length : Int) := by omega
            obtain ⟨q0, q1, q2, q3⟩ := hi4 j hjl
            have e0 := (HBJ.out.cell (p := ⟨g2, o2 + j * 4, none⟩) hg2).trans q0
            have e1 := (HBJ.out.cell (p := ⟨g2, o2 + j * 4 + 1, none⟩) hg2).trans q1
            have e2 := (HBJ.out.cell (p := ⟨g2, o2 + j * 4 + 2, none⟩) hg2).trans q2
            have e3 := (HBJ.out.cell (p := ⟨g2, o2 + j * 4 + 3, none⟩) hg2).trans q3
            clear q0 q1 q2 q3 hi4
            have hst := all_take (fun i => insOkF i C.length n) C i0 j hjl
            have hfl := all_false (fun i => insOkF i C.length n) C i0 j hjl
            rw [HAJ.out, Bool.true_and] at hst
            generalize C.getD j i0 = I at hst hfl e0 e1 e2 e3
            have HSJ : Hid ((C.take (j + 1)).all (fun i => insOkF i C.length n) = insOkF I C.length n) := hst
            have HFJ : Hid (insOkF I C.length n = false → C.all (fun i => insOkF i C.length n) = false) := hfl
            clear hst hfl HAJ
            have HJ0 : Hid (Below X.heap.size X wj) := hBj
            clear hBj
            go_wp2_with fail
            refine (insOk_any I n C.length _).mono ?_
            rintro e w2 ⟨rfl, hb2⟩
            have hbA : Below wj.heap.size wj w2 := ((Below.refl _ _).alloc (Nat.le_refl _) _).trans (hb2.mono (by simp))
            have hBB : Hid (Below x.heap.size x w2) := HBJ.out.trans (hbA.mono HBJ.out.size)
            have hBB2 : Hid (Below X.heap.size X w2) := HJ0.out.trans (hbA.mono HJ0.out.size)
            clear hb2 hbA
            cases hok : insOkF I C.length n
            · have HFA : Hid (P.all (fun c => codeOkF c n) = false) := HFL.out (by simp only [codeOkF, HFJ.out hok, Bool.and_false])
              go_wp2_with fail
              go_ret
              exact ⟨retBool HFA.out.symm, hBB.out⟩
            · have HSK : Hid ((C.take (j + 1)).all (fun i => insOkF i C.length n) = true) := HSJ.out.trans hok
              go_wp2_with fail
              go_roundw
              case rel => exact ⟨j + 1, by omega, by go_num, HSK.out, hBB2.out⟩
              case measure => simp [intOf]; omega
          · have hji : ¬ (j : Int) < (C.length : Int) := by omega
            have hca : codeOkF C n = true := by
              have := HAJ.out
              rw [List.take_of_length_le (by omega)] at this
              simp only [codeOkF, this, Bool.and_true, decide_eq_true_eq]
              exact h8
            have HSK : Hid ((P.take (k + 1)).all (fun c => codeOkF c n) = true) := HST.out.trans hca
            clear hca
            go_wp2_with fail
            go_roundw
            case rel => exact ⟨k + 1, by omega, by go_num, HSK.out, HBJ.out⟩
            case measure => simp [intOf]; omega
      · have h8i : (8 : Int) < C.length := by omega
        have hfa : P.all (fun c => codeOkF c n) = false := HFL.out (by simp [codeOkF]; omega)
        have HFA : Hid (P.all (fun c => codeOkF c n) = false) := hfa
        clear hfa
        unfold maxLen at hmk
        have hmi : (C.length : Int) ≤ 9223372036854775807 := by omega
        have hA : Below x.heap.size x (wr.alloc (.cells #[.slice pk C.length ck] 74)) := hB.alloc hB.size _
        go_wp2_with fail
        go_ret
        exact ⟨retBool HFA.out.symm, hA⟩
    · obtain rfl : k = n := by omega
      have hki : ¬ (k : Int) < (k : Int) := by omega
      have hfa : P.all (fun c => codeOkF c k) = true := by have := HAL.out; rw [List.take_of_length_le (by rw [HL.out]; omega)] at this; exact this
      have HFA : Hid (P.all (fun c => codeOkF c k) = true) := hfa
      clear hfa
      go_wp2_with fail
      go_ret
      exact ⟨retBool HFA.out.symm, hB⟩

set_option maxHeartbeats 1000000 in
theorem progOk_impl (x : World) (B : Nat) (v : Value) (P : List (List I4)) (h : ProgAt x B v P) :
    Calls Tryz.prog 35 #[v] x fun e y => e = .returned (.bool (progOkF P)) ∧ Below x.heap.size x y := by
  by_cases hr : 1 ≤ P.length ∧ P.length ≤ 4
  · rw [progOkF_in hr.1 hr.2]
    exact progOk_impl_in x B v P h hr.1 hr.2
  · rw [progOkF_out (by omega)]
    obtain ⟨p, cap, rfl, hm, _⟩ := h
    generalize P.length = n at *
    unfold maxLen at hm
    have hni : (n : Int) ≤ 9223372036854775807 := by omega
    by_cases h1 : (n : Int) < 1
    · go_enter Tryz.func35, Tryz.ntmps35
      go_wp2_with fail
      go_ret
      exact ⟨rfl, Below.refl _ _⟩
    · have h4 : (4 : Int) < (n : Int) := by omega
      clear hr hm
      go_enter Tryz.func35, Tryz.ntmps35
      go_wp2_with fail
      go_ret
      exact ⟨rfl, Below.refl _ _⟩

end Go.Proofs.YtlkebkajdlgebaaGreat
