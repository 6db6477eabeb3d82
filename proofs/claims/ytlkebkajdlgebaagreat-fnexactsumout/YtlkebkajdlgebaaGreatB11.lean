import Derived.Test.YtlkebkajdlgebaaGreatB10
/-
  Whether an instruction is ok, as the program says it.
-/
namespace Go.Proofs.YtlkebkajdlgebaaGreat
open Go.RowKit
set_option linter.unusedVariables false
set_option linter.unusedSimpArgs false

/-- the boxes of an instruction and of its room -/
structure Rm (x : World) (m : Nat) (k a b c p q : Int) : Prop where
  lt : m + 1 < x.heap.size
  c0 : x.cell? ⟨m, 0, none⟩ = some (.int .i64 k)
  c1 : x.cell? ⟨m, 1, none⟩ = some (.int .i64 a)
  c2 : x.cell? ⟨m, 2, none⟩ = some (.int .i64 b)
  c3 : x.cell? ⟨m, 3, none⟩ = some (.int .i64 c)
  d0 : x.cell? ⟨m + 1, 0, none⟩ = some (.int .i64 p)
  d1 : x.cell? ⟨m + 1, 1, none⟩ = some (.int .i64 q)
theorem Rm.later {x y : World} {m : Nat} {k a b c p q : Int} (h : Rm x m k a b c p q) (hb : Below x.heap.size x y) : Rm y m k a b c p q := by
  obtain ⟨n, c0, c1, c2, c3, d0, d1⟩ := h
  have hn : m < x.heap.size := by omega
  exact ⟨Nat.lt_of_lt_of_le n hb.size, (hb.cell (p := ⟨m, 0, none⟩) hn).trans c0, (hb.cell (p := ⟨m, 1, none⟩) hn).trans c1, (hb.cell (p := ⟨m, 2, none⟩) hn).trans c2, (hb.cell (p := ⟨m, 3, none⟩) hn).trans c3, (hb.cell (p := ⟨m + 1, 0, none⟩) n).trans d0, (hb.cell (p := ⟨m + 1, 1, none⟩) n).trans d1⟩
theorem Rm.new (w : World) (k a b c p q : Int) : Rm ((w.alloc (.cells #[.int .i64 k, .int .i64 a, .int .i64 b, .int .i64 c] 104)).alloc (.cells #[.int .i64 p, .int .i64 q] 107)) w.heap.size k a b c p q :=
  ⟨by simp, by simp [go_sem], by simp [go_sem], by simp [go_sem], by simp [go_sem], by simp [go_sem], by simp [go_sem]⟩

theorem letters_ok (K : Int) : (∀ (j : Nat) (h : j < (lettersF K).size), ((lettersF K)[j]'h) = 65 ∨ ((lettersF K)[j]'h) = 66 ∨ ((lettersF K)[j]'h) = 67) ∧ (lettersF K).size ≤ 3 ∧ 1 ≤ (lettersF K).size := by
  have hcase : lettersF K = ⟨#[65]⟩ ∨ lettersF K = ⟨#[67]⟩ ∨ lettersF K = ⟨#[65, 66]⟩ ∨ lettersF K = ⟨#[65, 66, 67]⟩ := by
    unfold lettersF
    split
    · exact .inl rfl
    · split
      · exact .inr (.inl rfl)
      · split
        · exact .inr (.inr (.inl rfl))
        · exact .inr (.inr (.inr rfl))
  generalize lettersF K = s at hcase ⊢
  rcases hcase with rfl | rfl | rfl | rfl
  · refine ⟨fun j h => ?_, by decide, by decide⟩
    have h' : j < 1 := h
    match j, h' with
    | 0, _ => exact .inl rfl
  · refine ⟨fun j h => ?_, by decide, by decide⟩
    have h' : j < 1 := h
    match j, h' with
    | 0, _ => exact .inr (.inr rfl)
  · refine ⟨fun j h => ?_, by decide, by decide⟩
    have h' : j < 2 := h
    match j, h' with
    | 0, _ => exact .inl rfl
    | 1, _ => exact .inr (.inl rfl)
  · refine ⟨fun j h => ?_, by decide, by decide⟩
    have h' : j < 3 := h
    match j, h' with
    | 0, _ => exact .inl rfl
    | 1, _ => exact .inr (.inl rfl)
    | 2, _ => exact .inr (.inr rfl)

end Go.Proofs.YtlkebkajdlgebaaGreat

/-
  Whether an instruction is ok, as the program says it: some kinds.
-/
namespace Go.Proofs.YtlkebkajdlgebaaGreat
open Go.RowKit
set_option linter.unusedVariables false
set_option linter.unusedSimpArgs false

set_option maxRecDepth 100000 in
set_option maxHeartbeats 4000000 in
theorem insOk_set (a b c p q : Int) (w : World) : Calls Tryz.prog 57 #[aggI (1, a, b, c), .agg #[.int .i64 p, .int .i64 q]] w fun e w' => e = .returned (.bool ((inI a 0 2 && inI b (-16) 15) && restF (lettersF 1) a b c)) ∧ Below w.heap.size w w' := by
  have hl3 := letters_ok 1
  obtain ⟨s, hs⟩ : ∃ s, lettersF 1 = s := ⟨_, rfl⟩
  obtain ⟨f, hf⟩ : ∃ f, (inI a 0 2 && inI b (-16) 15) = f := ⟨_, rfl⟩
  obtain ⟨r, hr⟩ : ∃ r, restF s a b c = r := ⟨_, rfl⟩
  rw [hs] at hl3
  have HF : Hid (∀ x : World, Calls Tryz.prog 168 #[.agg #[.int .i64 a, .int .i64 b], .agg #[.int .i64 p, .int .i64 q]] x fun e w' => e = .returned (.bool f) ∧ Below x.heap.size x w') := fun x => by have := set_fits a b p q x; rw [hf] at this; exact this
  have HL : Hid (∀ x : World, Calls Tryz.prog 81 #[.iface 156 (.agg #[.int .i64 a, .int .i64 b])] x fun e w' => e = .returned (.string s) ∧ Below x.heap.size x w') := fun x => by
    have := lettersOf_any (1, a, b, c) x (by simp) (by simp)
    simp only [ifcF] at this
    refine this.mono ?_
    rintro e w' ⟨rfl, rfl⟩
    exact ⟨by rw [hs], Below.refl _ _⟩
  have HR : Hid (∀ x : World, Calls Tryz.prog 80 #[.agg #[.int .i64 1, .int .i64 a, .int .i64 b, .int .i64 c], .string s] x fun e w' => e = .returned (.bool r) ∧ Below x.heap.size x w') := fun x => by
    have := restIsZero_any 1 a b c s x hl3.1 hl3.2.1 hl3.2.2
    rw [hr] at this
    exact this
  rw [hs, hf, hr]
  clear hs hf hr hl3
  have hA : Below w.heap.size w ((w.alloc (.cells #[.int .i64 1, .int .i64 a, .int .i64 b, .int .i64 c] 104)).alloc (.cells #[.int .i64 p, .int .i64 q] 107)) := by go_grown
  have hR := Rm.new w 1 a b c p q
  unfold aggI
  simp only
  go_enter Tryz.func57, Tryz.ntmps57
  go_wp2_with fail
  refine (instructionOf_any (1, a, b, c) _).mono ?_
  rintro e w1 ⟨rfl, hb1⟩
  have hB1 := hA.trans (hb1.mono (by simp; omega))
  have KR : Hid (Rm w1 w.heap.size 1 a b c p q) := hR.later hb1
  clear hA hR hb1
  simp only [ifcF]
  go_wp2_with fail
  cases f
  · skip
    refine wp_region_vals (by kernel_rfl) (by kernel_rfl) (by kernel_rfl) (by kernel_rfl) (fun j => [.iface 156 (.agg #[.int .i64 a, .int .i64 b]), .bool true, .bool true, .iface 156 (.agg #[.int .i64 a, .int .i64 b]), .agg #[.int .i64 p, .int .i64 q], .bool false, .bool false, .bool false, undef, undef, undef, undef, .bool false, .bool false].getD j undef) w1 (Below.drew (Below.refl _ _)) ?step ⟨#[.agg #[.int .i64 1, .int .i64 a, .int .i64 b, .int .i64 c], .agg #[.int .i64 p, .int .i64 q], .pointer (some ⟨w.heap.size, 0, none⟩), .pointer (some ⟨w.heap.size + 1, 0, none⟩), .bool false, .iface 156 (.agg #[.int .i64 a, .int .i64 b]), .agg #[.int .i64 1, .int .i64 a, .int .i64 b, .int .i64 c], .iface 156 (.agg #[.int .i64 a, .int .i64 b]), .iface 156 (.agg #[.int .i64 a, .int .i64 b]), .bool true, .bool true, .iface 156 (.agg #[.int .i64 a, .int .i64 b]), .agg #[.int .i64 p, .int .i64 q], .bool false, .bool false, .bool false, undef, undef, undef, undef, .bool false], []⟩ (by kernel_rfl) ?fin
    case step =>
      intro i o ho ρ y x hBx hdep hout
      rcases i with _ | i
      · obtain rfl := Option.some.inj ho
        have o5 : ρ (.tmp 5) = .iface 156 (.agg #[.int .i64 a, .int .i64 b]) := hout (.tmp 5) rfl
        clear hdep hout
        refine .inl ⟨rfl, (Gives.val ?_ : Gives _ _ _ (.iface 156 (.agg #[.int .i64 a, .int .i64 b])) _)⟩
        go_simp
      rcases i with _ | i
      · obtain rfl := Option.some.inj ho
        have e0 : ρ (.tmp 8) = .iface 156 (.agg #[.int .i64 a, .int .i64 b]) := (hdep ⟨0, .data⟩ (by simp) rfl).1 8 rfl
        have ocn : ∀ v, ρ (.const v) = v := fun v => hout (.const v) rfl
        clear hdep hout
        refine .inl ⟨rfl, (Gives.val ?_ : Gives _ _ _ (.bool true) _)⟩
        go_simp
      rcases i with _ | i
      · obtain rfl := Option.some.inj ho
        have e1 : ρ (.tmp 9) = .bool true := (hdep ⟨1, .data⟩ (by simp) rfl).1 9 rfl
        clear hdep hout
        refine .inl ⟨rfl, (Gives.val ?_ : Gives _ _ _ (.bool true) _)⟩
        go_simp
      rcases i with _ | i
      · obtain rfl := Option.some.inj ho
        have o5 : ρ (.tmp 5) = .iface 156 (.agg #[.int .i64 a, .int .i64 b]) := hout (.tmp 5) rfl
        have yg : y 2 = some true := (hdep ⟨2, .guard⟩ (by simp) rfl).2 10 rfl
        clear hdep hout
        refine .inl ⟨(by show (y 2 == some true) = true; rw [yg]; rfl), (Gives.val ?_ : Gives _ _ _ (.iface 156 (.agg #[.int .i64 a, .int .i64 b])) _)⟩
        go_simp
      rcases i with _ | i
      · obtain rfl := Option.some.inj ho
        have o3 : ρ (.tmp 3) = .pointer (some ⟨w.heap.size + 1, 0, none⟩) := hout (.tmp 3) rfl
        have yg : y 2 = some true := (hdep ⟨2, .guard⟩ (by simp) rfl).2 10 rfl
        clear hdep hout
        obtain ⟨n, c0, c1, c2, c3, d0, d1⟩ := KR.out.later hBx
        refine .inl ⟨(by show (y 2 == some true) = true; rw [yg]; rfl), (Gives.val ?_ : Gives _ _ _ (.agg #[.int .i64 p, .int .i64 q]) _)⟩
        go_simp
      rcases i with _ | i
      · obtain rfl := Option.some.inj ho
        have e3 : ρ (.tmp 11) = .iface 156 (.agg #[.int .i64 a, .int .i64 b]) := (hdep ⟨3, .data⟩ (by simp) rfl).1 11 rfl
        have e4 : ρ (.tmp 12) = .agg #[.int .i64 p, .int .i64 q] := (hdep ⟨4, .data⟩ (by simp) rfl).1 12 rfl
        have yg : y 2 = some true := (hdep ⟨2, .guard⟩ (by simp) rfl).2 10 rfl
        clear hdep hout
        refine .inl ⟨?_, ?_⟩
        · show (y 2 == some true) = true
          rw [yg]; rfl
        show Gives _ _ _ (.bool false) _
        refine Gives.call (HF.out x) ?_
        go_simp
        go_invoke
        go_simp
      rcases i with _ | i
      · obtain rfl := Option.some.inj ho
        have e2 : ρ (.tmp 10) = .bool true := (hdep ⟨2, .data⟩ (by simp) rfl).1 10 rfl
        have e5 : ρ (.tmp 13) = .bool false := (hdep ⟨5, .data⟩ (by simp) rfl).1 13 rfl
        have ocn : ∀ v, ρ (.const v) = v := fun v => hout (.const v) rfl
        clear hdep hout
        refine .inl ⟨rfl, (Gives.val ?_ : Gives _ _ _ (.bool false) _)⟩
        go_simp
      rcases i with _ | i
      · obtain rfl := Option.some.inj ho
        have e6 : ρ (.tmp 14) = .bool false := (hdep ⟨6, .data⟩ (by simp) rfl).1 14 rfl
        clear hdep hout
        refine .inl ⟨rfl, (Gives.val ?_ : Gives _ _ _ (.bool false) _)⟩
        go_simp
      rcases i with _ | i
      · obtain rfl := Option.some.inj ho
        have yg : y 7 = some false := (hdep ⟨7, .guard⟩ (by simp) rfl).2 15 rfl
        exact .inr ⟨by show (y 7 == some true) = false; rw [yg]; rfl, rfl⟩
      rcases i with _ | i
      · obtain rfl := Option.some.inj ho
        have yg : y 7 = some false := (hdep ⟨7, .guard⟩ (by simp) rfl).2 15 rfl
        exact .inr ⟨by show (y 7 == some true) = false; rw [yg]; rfl, rfl⟩
      rcases i with _ | i
      · obtain rfl := Option.some.inj ho
        have yg : y 7 = some false := (hdep ⟨7, .guard⟩ (by simp) rfl).2 15 rfl
        exact .inr ⟨by show (y 7 == some true) = false; rw [yg]; rfl, rfl⟩
      rcases i with _ | i
      · obtain rfl := Option.some.inj ho
        have yg : y 7 = some false := (hdep ⟨7, .guard⟩ (by simp) rfl).2 15 rfl
        exact .inr ⟨by show (y 7 == some true) = false; rw [yg]; rfl, rfl⟩
      rcases i with _ | i
      · obtain rfl := Option.some.inj ho
        have e7 : ρ (.tmp 15) = .bool false := (hdep ⟨7, .data⟩ (by simp) rfl).1 15 rfl
        have e11 : ρ (.tmp 19) = undef := (hdep ⟨11, .data⟩ (by simp) rfl).1 19 rfl
        have ocn : ∀ v, ρ (.const v) = v := fun v => hout (.const v) rfl
        clear hdep hout
        refine .inl ⟨rfl, (Gives.val ?_ : Gives _ _ _ (.bool false) _)⟩
        go_simp
      rcases i with _ | i
      · obtain rfl := Option.some.inj ho
        have e12 : ρ (.tmp 20) = .bool false := (hdep ⟨12, .data⟩ (by simp) rfl).1 20 rfl
        clear hdep hout
        refine .inl ⟨rfl, (Gives.val ?_ : Gives _ _ _ (.bool false) _)⟩
        go_simp
      cases ho
    case fin =>
      intro x hBx
      go_wp2_with fail
      go_ret
      exact ⟨rfl, hB1.trans (hBx.mono hB1.size)⟩
  · skip
    refine wp_region_vals (by kernel_rfl) (by kernel_rfl) (by kernel_rfl) (by kernel_rfl) (fun j => [.iface 156 (.agg #[.int .i64 a, .int .i64 b]), .bool true, .bool true, .iface 156 (.agg #[.int .i64 a, .int .i64 b]), .agg #[.int .i64 p, .int .i64 q], .bool true, .bool true, .bool true, .agg #[.int .i64 1, .int .i64 a, .int .i64 b, .int .i64 c], .iface 156 (.agg #[.int .i64 a, .int .i64 b]), .string s, .bool r, .bool r, .bool r].getD j undef) w1 (Below.drew (Below.refl _ _)) ?step ⟨#[.agg #[.int .i64 1, .int .i64 a, .int .i64 b, .int .i64 c], .agg #[.int .i64 p, .int .i64 q], .pointer (some ⟨w.heap.size, 0, none⟩), .pointer (some ⟨w.heap.size + 1, 0, none⟩), .bool r, .iface 156 (.agg #[.int .i64 a, .int .i64 b]), .agg #[.int .i64 1, .int .i64 a, .int .i64 b, .int .i64 c], .iface 156 (.agg #[.int .i64 a, .int .i64 b]), .iface 156 (.agg #[.int .i64 a, .int .i64 b]), .bool true, .bool true, .iface 156 (.agg #[.int .i64 a, .int .i64 b]), .agg #[.int .i64 p, .int .i64 q], .bool true, .bool true, .bool true, .agg #[.int .i64 1, .int .i64 a, .int .i64 b, .int .i64 c], .iface 156 (.agg #[.int .i64 a, .int .i64 b]), .string s, .bool r, .bool r], []⟩ (by kernel_rfl) ?fin
    case step =>
      intro i o ho ρ y x hBx hdep hout
      rcases i with _ | i
      · obtain rfl := Option.some.inj ho
        have o5 : ρ (.tmp 5) = .iface 156 (.agg #[.int .i64 a, .int .i64 b]) := hout (.tmp 5) rfl
        clear hdep hout
        refine .inl ⟨rfl, (Gives.val ?_ : Gives _ _ _ (.iface 156 (.agg #[.int .i64 a, .int .i64 b])) _)⟩
        go_simp
      rcases i with _ | i
      · obtain rfl := Option.some.inj ho
        have e0 : ρ (.tmp 8) = .iface 156 (.agg #[.int .i64 a, .int .i64 b]) := (hdep ⟨0, .data⟩ (by simp) rfl).1 8 rfl
        have ocn : ∀ v, ρ (.const v) = v := fun v => hout (.const v) rfl
        clear hdep hout
        refine .inl ⟨rfl, (Gives.val ?_ : Gives _ _ _ (.bool true) _)⟩
        go_simp
      rcases i with _ | i
      · obtain rfl := Option.some.inj ho
        have e1 : ρ (.tmp 9) = .bool true := (hdep ⟨1, .data⟩ (by simp) rfl).1 9 rfl
        clear hdep hout
        refine .inl ⟨rfl, (Gives.val ?_ : Gives _ _ _ (.bool true) _)⟩
        go_simp
      rcases i with _ | i
      · obtain rfl := Option.some.inj ho
        have o5 : ρ (.tmp 5) = .iface 156 (.agg #[.int .i64 a, .int .i64 b]) := hout (.tmp 5) rfl
        have yg : y 2 = some true := (hdep ⟨2, .guard⟩ (by simp) rfl).2 10 rfl
        clear hdep hout
        refine .inl ⟨(by show (y 2 == some true) = true; rw [yg]; rfl), (Gives.val ?_ : Gives _ _ _ (.iface 156 (.agg #[.int .i64 a, .int .i64 b])) _)⟩
        go_simp
      rcases i with _ | i
      · obtain rfl := Option.some.inj ho
        have o3 : ρ (.tmp 3) = .pointer (some ⟨w.heap.size + 1, 0, none⟩) := hout (.tmp 3) rfl
        have yg : y 2 = some true := (hdep ⟨2, .guard⟩ (by simp) rfl).2 10 rfl
        clear hdep hout
        obtain ⟨n, c0, c1, c2, c3, d0, d1⟩ := KR.out.later hBx
        refine .inl ⟨(by show (y 2 == some true) = true; rw [yg]; rfl), (Gives.val ?_ : Gives _ _ _ (.agg #[.int .i64 p, .int .i64 q]) _)⟩
        go_simp
      rcases i with _ | i
      · obtain rfl := Option.some.inj ho
        have e3 : ρ (.tmp 11) = .iface 156 (.agg #[.int .i64 a, .int .i64 b]) := (hdep ⟨3, .data⟩ (by simp) rfl).1 11 rfl
        have e4 : ρ (.tmp 12) = .agg #[.int .i64 p, .int .i64 q] := (hdep ⟨4, .data⟩ (by simp) rfl).1 12 rfl
        have yg : y 2 = some true := (hdep ⟨2, .guard⟩ (by simp) rfl).2 10 rfl
        clear hdep hout
        refine .inl ⟨?_, ?_⟩
        · show (y 2 == some true) = true
          rw [yg]; rfl
        show Gives _ _ _ (.bool true) _
        refine Gives.call (HF.out x) ?_
        go_simp
        go_invoke
        go_simp
      rcases i with _ | i
      · obtain rfl := Option.some.inj ho
        have e2 : ρ (.tmp 10) = .bool true := (hdep ⟨2, .data⟩ (by simp) rfl).1 10 rfl
        have e5 : ρ (.tmp 13) = .bool true := (hdep ⟨5, .data⟩ (by simp) rfl).1 13 rfl
        have ocn : ∀ v, ρ (.const v) = v := fun v => hout (.const v) rfl
        clear hdep hout
        refine .inl ⟨rfl, (Gives.val ?_ : Gives _ _ _ (.bool true) _)⟩
        go_simp
      rcases i with _ | i
      · obtain rfl := Option.some.inj ho
        have e6 : ρ (.tmp 14) = .bool true := (hdep ⟨6, .data⟩ (by simp) rfl).1 14 rfl
        clear hdep hout
        refine .inl ⟨rfl, (Gives.val ?_ : Gives _ _ _ (.bool true) _)⟩
        go_simp
      rcases i with _ | i
      · obtain rfl := Option.some.inj ho
        have o2 : ρ (.tmp 2) = .pointer (some ⟨w.heap.size, 0, none⟩) := hout (.tmp 2) rfl
        have yg : y 7 = some true := (hdep ⟨7, .guard⟩ (by simp) rfl).2 15 rfl
        clear hdep hout
        obtain ⟨n, c0, c1, c2, c3, d0, d1⟩ := KR.out.later hBx
        refine .inl ⟨(by show (y 7 == some true) = true; rw [yg]; rfl), (Gives.val ?_ : Gives _ _ _ (.agg #[.int .i64 1, .int .i64 a, .int .i64 b, .int .i64 c]) _)⟩
        go_simp
      rcases i with _ | i
      · obtain rfl := Option.some.inj ho
        have o5 : ρ (.tmp 5) = .iface 156 (.agg #[.int .i64 a, .int .i64 b]) := hout (.tmp 5) rfl
        have yg : y 7 = some true := (hdep ⟨7, .guard⟩ (by simp) rfl).2 15 rfl
        clear hdep hout
        refine .inl ⟨(by show (y 7 == some true) = true; rw [yg]; rfl), (Gives.val ?_ : Gives _ _ _ (.iface 156 (.agg #[.int .i64 a, .int .i64 b])) _)⟩
        go_simp
      rcases i with _ | i
      · obtain rfl := Option.some.inj ho
        have e9 : ρ (.tmp 17) = .iface 156 (.agg #[.int .i64 a, .int .i64 b]) := (hdep ⟨9, .data⟩ (by simp) rfl).1 17 rfl
        have yg : y 7 = some true := (hdep ⟨7, .guard⟩ (by simp) rfl).2 15 rfl
        have ofn : ∀ f, ρ (.func f) = .func (.func f) #[] #[] := fun f => hout (.func f) rfl
        clear hdep hout
        refine .inl ⟨?_, ?_⟩
        · show (y 7 == some true) = true
          rw [yg]; rfl
        show Gives _ _ _ (.string s) _
        refine Gives.call (HL.out x) ?_
        go_simp
      rcases i with _ | i
      · obtain rfl := Option.some.inj ho
        have e8 : ρ (.tmp 16) = .agg #[.int .i64 1, .int .i64 a, .int .i64 b, .int .i64 c] := (hdep ⟨8, .data⟩ (by simp) rfl).1 16 rfl
        have e10 : ρ (.tmp 18) = .string s := (hdep ⟨10, .data⟩ (by simp) rfl).1 18 rfl
        have yg : y 7 = some true := (hdep ⟨7, .guard⟩ (by simp) rfl).2 15 rfl
        have ofn : ∀ f, ρ (.func f) = .func (.func f) #[] #[] := fun f => hout (.func f) rfl
        clear hdep hout
        refine .inl ⟨?_, ?_⟩
        · show (y 7 == some true) = true
          rw [yg]; rfl
        show Gives _ _ _ (.bool r) _
        refine Gives.call (HR.out x) ?_
        go_simp
      rcases i with _ | i
      · obtain rfl := Option.some.inj ho
        have e7 : ρ (.tmp 15) = .bool true := (hdep ⟨7, .data⟩ (by simp) rfl).1 15 rfl
        have e11 : ρ (.tmp 19) = .bool r := (hdep ⟨11, .data⟩ (by simp) rfl).1 19 rfl
        have ocn : ∀ v, ρ (.const v) = v := fun v => hout (.const v) rfl
        clear hdep hout
        refine .inl ⟨rfl, (Gives.val ?_ : Gives _ _ _ (.bool r) _)⟩
        go_simp
      rcases i with _ | i
      · obtain rfl := Option.some.inj ho
        have e12 : ρ (.tmp 20) = .bool r := (hdep ⟨12, .data⟩ (by simp) rfl).1 20 rfl
        clear hdep hout
        refine .inl ⟨rfl, (Gives.val ?_ : Gives _ _ _ (.bool r) _)⟩
        go_simp
      cases ho
    case fin =>
      intro x hBx
      go_wp2_with fail
      go_ret
      exact ⟨rfl, hB1.trans (hBx.mono hB1.size)⟩

set_option maxRecDepth 100000 in
set_option maxHeartbeats 4000000 in
theorem insOk_move (a b c p q : Int) (w : World) : Calls Tryz.prog 57 #[aggI (2, a, b, c), .agg #[.int .i64 p, .int .i64 q]] w fun e w' => e = .returned (.bool (((inI a 0 2 && inI b 0 2)) && restF (lettersF 2) a b c)) ∧ Below w.heap.size w w' := by
  have hl3 := letters_ok 2
  obtain ⟨s, hs⟩ : ∃ s, lettersF 2 = s := ⟨_, rfl⟩
  obtain ⟨f, hf⟩ : ∃ f, ((inI a 0 2 && inI b 0 2)) = f := ⟨_, rfl⟩
  obtain ⟨r, hr⟩ : ∃ r, restF s a b c = r := ⟨_, rfl⟩
  rw [hs] at hl3
  have HF : Hid (∀ x : World, Calls Tryz.prog 171 #[.agg #[.int .i64 a, .int .i64 b], .agg #[.int .i64 p, .int .i64 q]] x fun e w' => e = .returned (.bool f) ∧ Below x.heap.size x w') := fun x => by have := move_fits a b p q x; rw [hf] at this; exact this
  have HL : Hid (∀ x : World, Calls Tryz.prog 81 #[.iface 158 (.agg #[.int .i64 a, .int .i64 b])] x fun e w' => e = .returned (.string s) ∧ Below x.heap.size x w') := fun x => by
    have := lettersOf_any (2, a, b, c) x (by simp) (by simp)
    simp only [ifcF] at this
    refine this.mono ?_
    rintro e w' ⟨rfl, rfl⟩
    exact ⟨by rw [hs], Below.refl _ _⟩
  have HR : Hid (∀ x : World, Calls Tryz.prog 80 #[.agg #[.int .i64 2, .int .i64 a, .int .i64 b, .int .i64 c], .string s] x fun e w' => e = .returned (.bool r) ∧ Below x.heap.size x w') := fun x => by
    have := restIsZero_any 2 a b c s x hl3.1 hl3.2.1 hl3.2.2
    rw [hr] at this
    exact this
  rw [hs, hf, hr]
  clear hs hf hr hl3
  have hA : Below w.heap.size w ((w.alloc (.cells #[.int .i64 2, .int .i64 a, .int .i64 b, .int .i64 c] 104)).alloc (.cells #[.int .i64 p, .int .i64 q] 107)) := by go_grown
  have hR := Rm.new w 2 a b c p q
  unfold aggI
  simp only
  go_enter Tryz.func57, Tryz.ntmps57
  go_wp2_with fail
  refine (instructionOf_any (2, a, b, c) _).mono ?_
  rintro e w1 ⟨rfl, hb1⟩
  have hB1 := hA.trans (hb1.mono (by simp; omega))
  have KR : Hid (Rm w1 w.heap.size 2 a b c p q) := hR.later hb1
  clear hA hR hb1
  simp only [ifcF]
  go_wp2_with fail
  cases f
  · skip
    refine wp_region_vals (by kernel_rfl) (by kernel_rfl) (by kernel_rfl) (by kernel_rfl) (fun j => [.iface 158 (.agg #[.int .i64 a, .int .i64 b]), .bool true, .bool true, .iface 158 (.agg #[.int .i64 a, .int .i64 b]), .agg #[.int .i64 p, .int .i64 q], .bool false, .bool false, .bool false, undef, undef, undef, undef, .bool false, .bool false].getD j undef) w1 (Below.drew (Below.refl _ _)) ?step ⟨#[.agg #[.int .i64 2, .int .i64 a, .int .i64 b, .int .i64 c], .agg #[.int .i64 p, .int .i64 q], .pointer (some ⟨w.heap.size, 0, none⟩), .pointer (some ⟨w.heap.size + 1, 0, none⟩), .bool false, .iface 158 (.agg #[.int .i64 a, .int .i64 b]), .agg #[.int .i64 2, .int .i64 a, .int .i64 b, .int .i64 c], .iface 158 (.agg #[.int .i64 a, .int .i64 b]), .iface 158 (.agg #[.int .i64 a, .int .i64 b]), .bool true, .bool true, .iface 158 (.agg #[.int .i64 a, .int .i64 b]), .agg #[.int .i64 p, .int .i64 q], .bool false, .bool false, .bool false, undef, undef, undef, undef, .bool false], []⟩ (by kernel_rfl) ?fin
    case step =>
      intro i o ho ρ y x hBx hdep hout
      rcases i with _ | i
      · obtain rfl := Option.some.inj ho
        have o5 : ρ (.tmp 5) = .iface 158 (.agg #[.int .i64 a, .int .i64 b]) := hout (.tmp 5) rfl
        clear hdep hout
        refine .inl ⟨rfl, (Gives.val ?_ : Gives _ _ _ (.iface 158 (.agg #[.int .i64 a, .int .i64 b])) _)⟩
        go_simp
      rcases i with _ | i
      · obtain rfl := Option.some.inj ho
        have e0 : ρ (.tmp 8) = .iface 158 (.agg #[.int .i64 a, .int .i64 b]) := (hdep ⟨0, .data⟩ (by simp) rfl).1 8 rfl
        have ocn : ∀ v, ρ (.const v) = v := fun v => hout (.const v) rfl
        clear hdep hout
        refine .inl ⟨rfl, (Gives.val ?_ : Gives _ _ _ (.bool true) _)⟩
        go_simp
      rcases i with _ | i
      · obtain rfl := Option.some.inj ho
        have e1 : ρ (.tmp 9) = .bool true := (hdep ⟨1, .data⟩ (by simp) rfl).1 9 rfl
        clear hdep hout
        refine .inl ⟨rfl, (Gives.val ?_ : Gives _ _ _ (.bool true) _)⟩
        go_simp
      rcases i with _ | i
      · obtain rfl := Option.some.inj ho
        have o5 : ρ (.tmp 5) = .iface 158 (.agg #[.int .i64 a, .int .i64 b]) := hout (.tmp 5) rfl
        have yg : y 2 = some true := (hdep ⟨2, .guard⟩ (by simp) rfl).2 10 rfl
        clear hdep hout
        refine .inl ⟨(by show (y 2 == some true) = true; rw [yg]; rfl), (Gives.val ?_ : Gives _ _ _ (.iface 158 (.agg #[.int .i64 a, .int .i64 b])) _)⟩
        go_simp
      rcases i with _ | i
      · obtain rfl := Option.some.inj ho
        have o3 : ρ (.tmp 3) = .pointer (some ⟨w.heap.size + 1, 0, none⟩) := hout (.tmp 3) rfl
        have yg : y 2 = some true := (hdep ⟨2, .guard⟩ (by simp) rfl).2 10 rfl
        clear hdep hout
        obtain ⟨n, c0, c1, c2, c3, d0, d1⟩ := KR.out.later hBx
        refine .inl ⟨(by show (y 2 == some true) = true; rw [yg]; rfl), (Gives.val ?_ : Gives _ _ _ (.agg #[.int .i64 p, .int .i64 q]) _)⟩
        go_simp
      rcases i with _ | i
      · obtain rfl := Option.some.inj ho
        have e3 : ρ (.tmp 11) = .iface 158 (.agg #[.int .i64 a, .int .i64 b]) := (hdep ⟨3, .data⟩ (by simp) rfl).1 11 rfl
        have e4 : ρ (.tmp 12) = .agg #[.int .i64 p, .int .i64 q] := (hdep ⟨4, .data⟩ (by simp) rfl).1 12 rfl
        have yg : y 2 = some true := (hdep ⟨2, .guard⟩ (by simp) rfl).2 10 rfl
        clear hdep hout
        refine .inl ⟨?_, ?_⟩
        · show (y 2 == some true) = true
          rw [yg]; rfl
        show Gives _ _ _ (.bool false) _
        refine Gives.call (HF.out x) ?_
        go_simp
        go_invoke
        go_simp
      rcases i with _ | i
      · obtain rfl := Option.some.inj ho
        have e2 : ρ (.tmp 10) = .bool true := (hdep ⟨2, .data⟩ (by simp) rfl).1 10 rfl
        have e5 : ρ (.tmp 13) = .bool false := (hdep ⟨5, .data⟩ (by simp) rfl).1 13 rfl
        have ocn : ∀ v, ρ (.const v) = v := fun v => hout (.const v) rfl
        clear hdep hout
        refine .inl ⟨rfl, (Gives.val ?_ : Gives _ _ _ (.bool false) _)⟩
        go_simp
      rcases i with _ | i
      · obtain rfl := Option.some.inj ho
        have e6 : ρ (.tmp 14) = .bool false := (hdep ⟨6, .data⟩ (by simp) rfl).1 14 rfl
        clear hdep hout
        refine .inl ⟨rfl, (Gives.val ?_ : Gives _ _ _ (.bool false) _)⟩
        go_simp
      rcases i with _ | i
      · obtain rfl := Option.some.inj ho
        have yg : y 7 = some false := (hdep ⟨7, .guard⟩ (by simp) rfl).2 15 rfl
        exact .inr ⟨by show (y 7 == some true) = false; rw [yg]; rfl, rfl⟩
      rcases i with _ | i
      · obtain rfl := Option.some.inj ho
        have yg : y 7 = some false := (hdep ⟨7, .guard⟩ (by simp) rfl).2 15 rfl
        exact .inr ⟨by show (y 7 == some true) = false; rw [yg]; rfl, rfl⟩
      rcases i with _ | i
      · obtain rfl := Option.some.inj ho
        have yg : y 7 = some false := (hdep ⟨7, .guard⟩ (by simp) rfl).2 15 rfl
        exact .inr ⟨by show (y 7 == some true) = false; rw [yg]; rfl, rfl⟩
      rcases i with _ | i
      · obtain rfl := Option.some.inj ho
        have yg : y 7 = some false := (hdep ⟨7, .guard⟩ (by simp) rfl).2 15 rfl
        exact .inr ⟨by show (y 7 == some true) = false; rw [yg]; rfl, rfl⟩
      rcases i with _ | i
      · obtain rfl := Option.some.inj ho
        have e7 : ρ (.tmp 15) = .bool false := (hdep ⟨7, .data⟩ (by simp) rfl).1 15 rfl
        have e11 : ρ (.tmp 19) = undef := (hdep ⟨11, .data⟩ (by simp) rfl).1 19 rfl
        have ocn : ∀ v, ρ (.const v) = v := fun v => hout (.const v) rfl
        clear hdep hout
        refine .inl ⟨rfl, (Gives.val ?_ : Gives _ _ _ (.bool false) _)⟩
        go_simp
      rcases i with _ | i
      · obtain rfl := Option.some.inj ho
        have e12 : ρ (.tmp 20) = .bool false := (hdep ⟨12, .data⟩ (by simp) rfl).1 20 rfl
        clear hdep hout
        refine .inl ⟨rfl, (Gives.val ?_ : Gives _ _ _ (.bool false) _)⟩
        go_simp
      cases ho
    case fin =>
      intro x hBx
      go_wp2_with fail
      go_ret
      exact ⟨rfl, hB1.trans (hBx.mono hB1.size)⟩
  · skip
    refine wp_region_vals (by kernel_rfl) (by kernel_rfl) (by kernel_rfl) (by kernel_rfl) (fun j => [.iface 158 (.agg #[.int .i64 a, .int .i64 b]), .bool true, .bool true, .iface 158 (.agg #[.int .i64 a, .int .i64 b]), .agg #[.int .i64 p, .int .i64 q], .bool true, .bool true, .bool true, .agg #[.int .i64 2, .int .i64 a, .int .i64 b, .int .i64 c], .iface 158 (.agg #[.int .i64 a, .int .i64 b]), .string s, .bool r, .bool r, .bool r].getD j undef) w1 (Below.drew (Below.refl _ _)) ?step ⟨#[.agg #[.int .i64 2, .int .i64 a, .int .i64 b, .int .i64 c], .agg #[.int .i64 p, .int .i64 q], .pointer (some ⟨w.heap.size, 0, none⟩), .pointer (some ⟨w.heap.size + 1, 0, none⟩), .bool r, .iface 158 (.agg #[.int .i64 a, .int .i64 b]), .agg #[.int .i64 2, .int .i64 a, .int .i64 b, .int .i64 c], .iface 158 (.agg #[.int .i64 a, .int .i64 b]), .iface 158 (.agg #[.int .i64 a, .int .i64 b]), .bool true, .bool true, .iface 158 (.agg #[.int .i64 a, .int .i64 b]), .agg #[.int .i64 p, .int .i64 q], .bool true, .bool true, .bool true, .agg #[.int .i64 2, .int .i64 a, .int .i64 b, .int .i64 c], .iface 158 (.agg #[.int .i64 a, .int .i64 b]), .string s, .bool r, .bool r], []⟩ (by kernel_rfl) ?fin
    case step =>
      intro i o ho ρ y x hBx hdep hout
      rcases i with _ | i
      · obtain rfl := Option.some.inj ho
        have o5 : ρ (.tmp 5) = .iface 158 (.agg #[.int .i64 a, .int .i64 b]) := hout (.tmp 5) rfl
        clear hdep hout
        refine .inl ⟨rfl, (Gives.val ?_ : Gives _ _ _ (.iface 158 (.agg #[.int .i64 a, .int .i64 b])) _)⟩
        go_simp
      rcases i with _ | i
      · obtain rfl := Option.some.inj ho
        have e0 : ρ (.tmp 8) = .iface 158 (.agg #[.int .i64 a, .int .i64 b]) := (hdep ⟨0, .data⟩ (by simp) rfl).1 8 rfl
        have ocn : ∀ v, ρ (.const v) = v := fun v => hout (.const v) rfl
        clear hdep hout
        refine .inl ⟨rfl, (Gives.val ?_ : Gives _ _ _ (.bool true) _)⟩
        go_simp
      rcases i with _ | i
      · obtain rfl := Option.some.inj ho
        have e1 : ρ (.tmp 9) = .bool true := (hdep ⟨1, .data⟩ (by simp) rfl).1 9 rfl
        clear hdep hout
        refine .inl ⟨rfl, (Gives.val ?_ : Gives _ _ _ (.bool true) _)⟩
        go_simp
      rcases i with _ | i
      · obtain rfl := Option.some.inj ho
        have o5 : ρ (.tmp 5) = .iface 158 (.agg #[.int .i64 a, .int .i64 b]) := hout (.tmp 5) rfl
        have yg : y 2 = some true := (hdep ⟨2, .guard⟩ (by simp) rfl).2 10 rfl
        clear hdep hout
        refine .inl ⟨(by show (y 2 == some true) = true; rw [yg]; rfl), (Gives.val ?_ : Gives _ _ _ (.iface 158 (.agg #[.int .i64 a, .int .i64 b])) _)⟩
        go_simp
      rcases i with _ | i
      · obtain rfl := Option.some.inj ho
        have o3 : ρ (.tmp 3) = .pointer (some ⟨w.heap.size + 1, 0, none⟩) := hout (.tmp 3) rfl
        have yg : y 2 = some true := (hdep ⟨2, .guard⟩ (by simp) rfl).2 10 rfl
        clear hdep hout
        obtain ⟨n, c0, c1, c2, c3, d0, d1⟩ := KR.out.later hBx
        refine .inl ⟨(by show (y 2 == some true) = true; rw [yg]; rfl), (Gives.val ?_ : Gives _ _ _ (.agg #[.int .i64 p, .int .i64 q]) _)⟩
        go_simp
      rcases i with _ | i
      · obtain rfl := Option.some.inj ho
        have e3 : ρ (.tmp 11) = .iface 158 (.agg #[.int .i64 a, .int .i64 b]) := (hdep ⟨3, .data⟩ (by simp) rfl).1 11 rfl
        have e4 : ρ (.tmp 12) = .agg #[.int .i64 p, .int .i64 q] := (hdep ⟨4, .data⟩ (by simp) rfl).1 12 rfl
        have yg : y 2 = some true := (hdep ⟨2, .guard⟩ (by simp) rfl).2 10 rfl
        clear hdep hout
        refine .inl ⟨?_, ?_⟩
        · show (y 2 == some true) = true
          rw [yg]; rfl
        show Gives _ _ _ (.bool true) _
        refine Gives.call (HF.out x) ?_
        go_simp
        go_invoke
        go_simp
      rcases i with _ | i
      · obtain rfl := Option.some.inj ho
        have e2 : ρ (.tmp 10) = .bool true := (hdep ⟨2, .data⟩ (by simp) rfl).1 10 rfl
        have e5 : ρ (.tmp 13) = .bool true := (hdep ⟨5, .data⟩ (by simp) rfl).1 13 rfl
        have ocn : ∀ v, ρ (.const v) = v := fun v => hout (.const v) rfl
        clear hdep hout
        refine .inl ⟨rfl, (Gives.val ?_ : Gives _ _ _ (.bool true) _)⟩
        go_simp
      rcases i with _ | i
      · obtain rfl := Option.some.inj ho
        have e6 : ρ (.tmp 14) = .bool true := (hdep ⟨6, .data⟩ (by simp) rfl).1 14 rfl
        clear hdep hout
        refine .inl ⟨rfl, (Gives.val ?_ : Gives _ _ _ (.bool true) _)⟩
        go_simp
      rcases i with _ | i
      · obtain rfl := Option.some.inj ho
        have o2 : ρ (.tmp 2) = .pointer (some ⟨w.heap.size, 0, none⟩) := hout (.tmp 2) rfl
        have yg : y 7 = some true := (hdep ⟨7, .guard⟩ (by simp) rfl).2 15 rfl
        clear hdep hout
        obtain ⟨n, c0, c1, c2, c3, d0, d1⟩ := KR.out.later hBx
        refine .inl ⟨(by show (y 7 == some true) = true; rw [yg]; rfl), (Gives.val ?_ : Gives _ _ _ (.agg #[.int .i64 2, .int .i64 a, .int .i64 b, .int .i64 c]) _)⟩
        go_simp
      rcases i with _ | i
      · obtain rfl := Option.some.inj ho
        have o5 : ρ (.tmp 5) = .iface 158 (.agg #[.int .i64 a, .int .i64 b]) := hout (.tmp 5) rfl
        have yg : y 7 = some true := (hdep ⟨7, .guard⟩ (by simp) rfl).2 15 rfl
        clear hdep hout
        refine .inl ⟨(by show (y 7 == some true) = true; rw [yg]; rfl), (Gives.val ?_ : Gives _ _ _ (.iface 158 (.agg #[.int .i64 a, .int .i64 b])) _)⟩
        go_simp
      rcases i with _ | i
      · obtain rfl := Option.some.inj ho
        have e9 : ρ (.tmp 17) = .iface 158 (.agg #[.int .i64 a, .int .i64 b]) := (hdep ⟨9, .data⟩ (by simp) rfl).1 17 rfl
        have yg : y 7 = some true := (hdep ⟨7, .guard⟩ (by simp) rfl).2 15 rfl
        have ofn : ∀ f, ρ (.func f) = .func (.func f) #[] #[] := fun f => hout (.func f) rfl
        clear hdep hout
        refine .inl ⟨?_, ?_⟩
        · show (y 7 == some true) = true
          rw [yg]; rfl
        show Gives _ _ _ (.string s) _
        refine Gives.call (HL.out x) ?_
        go_simp
      rcases i with _ | i
      · obtain rfl := Option.some.inj ho
        have e8 : ρ (.tmp 16) = .agg #[.int .i64 2, .int .i64 a, .int .i64 b, .int .i64 c] := (hdep ⟨8, .data⟩ (by simp) rfl).1 16 rfl
        have e10 : ρ (.tmp 18) = .string s := (hdep ⟨10, .data⟩ (by simp) rfl).1 18 rfl
        have yg : y 7 = some true := (hdep ⟨7, .guard⟩ (by simp) rfl).2 15 rfl
        have ofn : ∀ f, ρ (.func f) = .func (.func f) #[] #[] := fun f => hout (.func f) rfl
        clear hdep hout
        refine .inl ⟨?_, ?_⟩
        · show (y 7 == some true) = true
          rw [yg]; rfl
        show Gives _ _ _ (.bool r) _
        refine Gives.call (HR.out x) ?_
        go_simp
      rcases i with _ | i
      · obtain rfl := Option.some.inj ho
        have e7 : ρ (.tmp 15) = .bool true := (hdep ⟨7, .data⟩ (by simp) rfl).1 15 rfl
        have e11 : ρ (.tmp 19) = .bool r := (hdep ⟨11, .data⟩ (by simp) rfl).1 19 rfl
        have ocn : ∀ v, ρ (.const v) = v := fun v => hout (.const v) rfl
        clear hdep hout
        refine .inl ⟨rfl, (Gives.val ?_ : Gives _ _ _ (.bool r) _)⟩
        go_simp
      rcases i with _ | i
      · obtain rfl := Option.some.inj ho
        have e12 : ρ (.tmp 20) = .bool r := (hdep ⟨12, .data⟩ (by simp) rfl).1 20 rfl
        clear hdep hout
        refine .inl ⟨rfl, (Gives.val ?_ : Gives _ _ _ (.bool r) _)⟩
        go_simp
      cases ho
    case fin =>
      intro x hBx
      go_wp2_with fail
      go_ret
      exact ⟨rfl, hB1.trans (hBx.mono hB1.size)⟩

set_option maxRecDepth 100000 in
set_option maxHeartbeats 4000000 in
theorem insOk_ask (a b c p q : Int) (w : World) : Calls Tryz.prog 57 #[aggI (3, a, b, c), .agg #[.int .i64 p, .int .i64 q]] w fun e w' => e = .returned (.bool ((inI a 0 2 && inI b (-16) 15 && decide (0 ≤ b)) && restF (lettersF 3) a b c)) ∧ Below w.heap.size w w' := by
  have hl3 := letters_ok 3
  obtain ⟨s, hs⟩ : ∃ s, lettersF 3 = s := ⟨_, rfl⟩
  obtain ⟨f, hf⟩ : ∃ f, (inI a 0 2 && inI b (-16) 15 && decide (0 ≤ b)) = f := ⟨_, rfl⟩
  obtain ⟨r, hr⟩ : ∃ r, restF s a b c = r := ⟨_, rfl⟩
  rw [hs] at hl3
  have HF : Hid (∀ x : World, Calls Tryz.prog 174 #[.agg #[.int .i64 a, .int .i64 b], .agg #[.int .i64 p, .int .i64 q]] x fun e w' => e = .returned (.bool f) ∧ Below x.heap.size x w') := fun x => by have := ask_fits a b p q x; rw [hf] at this; exact this
  have HL : Hid (∀ x : World, Calls Tryz.prog 81 #[.iface 160 (.agg #[.int .i64 a, .int .i64 b])] x fun e w' => e = .returned (.string s) ∧ Below x.heap.size x w') := fun x => by
    have := lettersOf_any (3, a, b, c) x (by simp) (by simp)
    simp only [ifcF] at this
    refine this.mono ?_
    rintro e w' ⟨rfl, rfl⟩
    exact ⟨by rw [hs], Below.refl _ _⟩
  have HR : Hid (∀ x : World, Calls Tryz.prog 80 #[.agg #[.int .i64 3, .int .i64 a, .int .i64 b, .int .i64 c], .string s] x fun e w' => e = .returned (.bool r) ∧ Below x.heap.size x w') := fun x => by
    have := restIsZero_any 3 a b c s x hl3.1 hl3.2.1 hl3.2.2
    rw [hr] at this
    exact this
  rw [hs, hf, hr]
  clear hs hf hr hl3
  have hA : Below w.heap.size w ((w.alloc (.cells #[.int .i64 3, .int .i64 a, .int .i64 b, .int .i64 c] 104)).alloc (.cells #[.int .i64 p, .int .i64 q] 107)) := by go_grown
  have hR := Rm.new w 3 a b c p q
  unfold aggI
  simp only
  go_enter Tryz.func57, Tryz.ntmps57
  go_wp2_with fail
  refine (instructionOf_any (3, a, b, c) _).mono ?_
  rintro e w1 ⟨rfl, hb1⟩
  have hB1 := hA.trans (hb1.mono (by simp; omega))
  have KR : Hid (Rm w1 w.heap.size 3 a b c p q) := hR.later hb1
  clear hA hR hb1
  simp only [ifcF]
  go_wp2_with fail
  cases f
  · skip
    refine wp_region_vals (by kernel_rfl) (by kernel_rfl) (by kernel_rfl) (by kernel_rfl) (fun j => [.iface 160 (.agg #[.int .i64 a, .int .i64 b]), .bool true, .bool true, .iface 160 (.agg #[.int .i64 a, .int .i64 b]), .agg #[.int .i64 p, .int .i64 q], .bool false, .bool false, .bool false, undef, undef, undef, undef, .bool false, .bool false].getD j undef) w1 (Below.drew (Below.refl _ _)) ?step ⟨#[.agg #[.int .i64 3, .int .i64 a, .int .i64 b, .int .i64 c], .agg #[.int .i64 p, .int .i64 q], .pointer (some ⟨w.heap.size, 0, none⟩), .pointer (some ⟨w.heap.size + 1, 0, none⟩), .bool false, .iface 160 (.agg #[.int .i64 a, .int .i64 b]), .agg #[.int .i64 3, .int .i64 a, .int .i64 b, .int .i64 c], .iface 160 (.agg #[.int .i64 a, .int .i64 b]), .iface 160 (.agg #[.int .i64 a, .int .i64 b]), .bool true, .bool true, .iface 160 (.agg #[.int .i64 a, .int .i64 b]), .agg #[.int .i64 p, .int .i64 q], .bool false, .bool false, .bool false, undef, undef, undef, undef, .bool false], []⟩ (by kernel_rfl) ?fin
    case step =>
      intro i o ho ρ y x hBx hdep hout
      rcases i with _ | i
      · obtain rfl := Option.some.inj ho
        have o5 : ρ (.tmp 5) = .iface 160 (.agg #[.int .i64 a, .int .i64 b]) := hout (.tmp 5) rfl
        clear hdep hout
        refine .inl ⟨rfl, (Gives.val ?_ : Gives _ _ _ (.iface 160 (.agg #[.int .i64 a, .int .i64 b])) _)⟩
        go_simp
      rcases i with _ | i
      · obtain rfl := Option.some.inj ho
        have e0 : ρ (.tmp 8) = .iface 160 (.agg #[.int .i64 a, .int .i64 b]) := (hdep ⟨0, .data⟩ (by simp) rfl).1 8 rfl
        have ocn : ∀ v, ρ (.const v) = v := fun v => hout (.const v) rfl
        clear hdep hout
        refine .inl ⟨rfl, (Gives.val ?_ : Gives _ _ _ (.bool true) _)⟩
        go_simp
      rcases i with _ | i
      · obtain rfl := Option.some.inj ho
        have e1 : ρ (.tmp 9) = .bool true := (hdep ⟨1, .data⟩ (by simp) rfl).1 9 rfl
        clear hdep hout
        refine .inl ⟨rfl, (Gives.val ?_ : Gives _ _ _ (.bool true) _)⟩
        go_simp
      rcases i with _ | i
      · obtain rfl := Option.some.inj ho
        have o5 : ρ (.tmp 5) = .iface 160 (.agg #[.int .i64 a, .int .i64 b]) := hout (.tmp 5) rfl
        have yg : y 2 = some true := (hdep ⟨2, .guard⟩ (by simp) rfl).2 10 rfl
        clear hdep hout
        refine .inl ⟨(by show (y 2 == some true) = true; rw [yg]; rfl), (Gives.val ?_ : Gives _ _ _ (.iface 160 (.agg #[.int .i64 a, .int .i64 b])) _)⟩
        go_simp
      rcases i with _ | i
      · obtain rfl := Option.some.inj ho
        have o3 : ρ (.tmp 3) = .pointer (some ⟨w.heap.size + 1, 0, none⟩) := hout (.tmp 3) rfl
        have yg : y 2 = some true := (hdep ⟨2, .guard⟩ (by simp) rfl).2 10 rfl
        clear hdep hout
        obtain ⟨n, c0, c1, c2, c3, d0, d1⟩ := KR.out.later hBx
        refine .inl ⟨(by show (y 2 == some true) = true; rw [yg]; rfl), (Gives.val ?_ : Gives _ _ _ (.agg #[.int .i64 p, .int .i64 q]) _)⟩
        go_simp
      rcases i with _ | i
      · obtain rfl := Option.some.inj ho
        have e3 : ρ (.tmp 11) = .iface 160 (.agg #[.int .i64 a, .int .i64 b]) := (hdep ⟨3, .data⟩ (by simp) rfl).1 11 rfl
        have e4 : ρ (.tmp 12) = .agg #[.int .i64 p, .int .i64 q] := (hdep ⟨4, .data⟩ (by simp) rfl).1 12 rfl
        have yg : y 2 = some true := (hdep ⟨2, .guard⟩ (by simp) rfl).2 10 rfl
        clear hdep hout
        refine .inl ⟨?_, ?_⟩
        · show (y 2 == some true) = true
          rw [yg]; rfl
        show Gives _ _ _ (.bool false) _
        refine Gives.call (HF.out x) ?_
        go_simp
        go_invoke
        go_simp
      rcases i with _ | i
      · obtain rfl := Option.some.inj ho
        have e2 : ρ (.tmp 10) = .bool true := (hdep ⟨2, .data⟩ (by simp) rfl).1 10 rfl
        have e5 : ρ (.tmp 13) = .bool false := (hdep ⟨5, .data⟩ (by simp) rfl).1 13 rfl
        have ocn : ∀ v, ρ (.const v) = v := fun v => hout (.const v) rfl
        clear hdep hout
        refine .inl ⟨rfl, (Gives.val ?_ : Gives _ _ _ (.bool false) _)⟩
        go_simp
      rcases i with _ | i
      · obtain rfl := Option.some.inj ho
        have e6 : ρ (.tmp 14) = .bool false := (hdep ⟨6, .data⟩ (by simp) rfl).1 14 rfl
        clear hdep hout
        refine .inl ⟨rfl, (Gives.val ?_ : Gives _ _ _ (.bool false) _)⟩
        go_simp
      rcases i with _ | i
      · obtain rfl := Option.some.inj ho
        have yg : y 7 = some false := (hdep ⟨7, .guard⟩ (by simp) rfl).2 15 rfl
        exact .inr ⟨by show (y 7 == some true) = false; rw [yg]; rfl, rfl⟩
      rcases i with _ | i
      · obtain rfl := Option.some.inj ho
        have yg : y 7 = some false := (hdep ⟨7, .guard⟩ (by simp) rfl).2 15 rfl
        exact .inr ⟨by show (y 7 == some true) = false; rw [yg]; rfl, rfl⟩
      rcases i with _ | i
      · obtain rfl := Option.some.inj ho
        have yg : y 7 = some false := (hdep ⟨7, .guard⟩ (by simp) rfl).2 15 rfl
        exact .inr ⟨by show (y 7 == some true) = false; rw [yg]; rfl, rfl⟩
      rcases i with _ | i
      · obtain rfl := Option.some.inj ho
        have yg : y 7 = some false := (hdep ⟨7, .guard⟩ (by simp) rfl).2 15 rfl
        exact .inr ⟨by show (y 7 == some true) = false; rw [yg]; rfl, rfl⟩
      rcases i with _ | i
      · obtain rfl := Option.some.inj ho
        have e7 : ρ (.tmp 15) = .bool false := (hdep ⟨7, .data⟩ (by simp) rfl).1 15 rfl
        have e11 : ρ (.tmp 19) = undef := (hdep ⟨11, .data⟩ (by simp) rfl).1 19 rfl
        have ocn : ∀ v, ρ (.const v) = v := fun v => hout (.const v) rfl
        clear hdep hout
        refine .inl ⟨rfl, (Gives.val ?_ : Gives _ _ _ (.bool false) _)⟩
        go_simp
      rcases i with _ | i
      · obtain rfl := Option.some.inj ho
        have e12 : ρ (.tmp 20) = .bool false := (hdep ⟨12, .data⟩ (by simp) rfl).1 20 rfl
        clear hdep hout
        refine .inl ⟨rfl, (Gives.val ?_ : Gives _ _ _ (.bool false) _)⟩
        go_simp
      cases ho
    case fin =>
      intro x hBx
      go_wp2_with fail
      go_ret
      exact ⟨rfl, hB1.trans (hBx.mono hB1.size)⟩
  · skip
    refine wp_region_vals (by kernel_rfl) (by kernel_rfl) (by kernel_rfl) (by kernel_rfl) (fun j => [.iface 160 (.agg #[.int .i64 a, .int .i64 b]), .bool true, .bool true, .iface 160 (.agg #[.int .i64 a, .int .i64 b]), .agg #[.int .i64 p, .int .i64 q], .bool true, .bool true, .bool true, .agg #[.int .i64 3, .int .i64 a, .int .i64 b, .int .i64 c], .iface 160 (.agg #[.int .i64 a, .int .i64 b]), .string s, .bool r, .bool r, .bool r].getD j undef) w1 (Below.drew (Below.refl _ _)) ?step ⟨#[.agg #[.int .i64 3, .int .i64 a, .int .i64 b, .int .i64 c], .agg #[.int .i64 p, .int .i64 q], .pointer (some ⟨w.heap.size, 0, none⟩), .pointer (some ⟨w.heap.size + 1, 0, none⟩), .bool r, .iface 160 (.agg #[.int .i64 a, .int .i64 b]), .agg #[.int .i64 3, .int .i64 a, .int .i64 b, .int .i64 c], .iface 160 (.agg #[.int .i64 a, .int .i64 b]), .iface 160 (.agg #[.int .i64 a, .int .i64 b]), .bool true, .bool true, .iface 160 (.agg #[.int .i64 a, .int .i64 b]), .agg #[.int .i64 p, .int .i64 q], .bool true, .bool true, .bool true, .agg #[.int .i64 3, .int .i64 a, .int .i64 b, .int .i64 c], .iface 160 (.agg #[.int .i64 a, .int .i64 b]), .string s, .bool r, .bool r], []⟩ (by kernel_rfl) ?fin
    case step =>
      intro i o ho ρ y x hBx hdep hout
      rcases i with _ | i
      · obtain rfl := Option.some.inj ho
        have o5 : ρ (.tmp 5) = .iface 160 (.agg #[.int .i64 a, .int .i64 b]) := hout (.tmp 5) rfl
        clear hdep hout
        refine .inl ⟨rfl, (Gives.val ?_ : Gives _ _ _ (.iface 160 (.agg #[.int .i64 a, .int .i64 b])) _)⟩
        go_simp
      rcases i with _ | i
      · obtain rfl := Option.some.inj ho
        have e0 : ρ (.tmp 8) = .iface 160 (.agg #[.int .i64 a, .int .i64 b]) := (hdep ⟨0, .data⟩ (by simp) rfl).1 8 rfl
        have ocn : ∀ v, ρ (.const v) = v := fun v => hout (.const v) rfl
        clear hdep hout
        refine .inl ⟨rfl, (Gives.val ?_ : Gives _ _ _ (.bool true) _)⟩
        go_simp
      rcases i with _ | i
      · obtain rfl := Option.some.inj ho
        have e1 : ρ (.tmp 9) = .bool true := (hdep ⟨1, .data⟩ (by simp) rfl).1 9 rfl
        clear hdep hout
        refine .inl ⟨rfl, (Gives.val ?_ : Gives _ _ _ (.bool true) _)⟩
        go_simp
      rcases i with _ | i
      · obtain rfl := Option.some.inj ho
        have o5 : ρ (.tmp 5) = .iface 160 (.agg #[.int .i64 a, .int .i64 b]) := hout (.tmp 5) rfl
        have yg : y 2 = some true := (hdep ⟨2, .guard⟩ (by simp) rfl).2 10 rfl
        clear hdep hout
        refine .inl ⟨(by show (y 2 == some true) = true; rw [yg]; rfl), (Gives.val ?_ : Gives _ _ _ (.iface 160 (.agg #[.int .i64 a, .int .i64 b])) _)⟩
        go_simp
      rcases i with _ | i
      · obtain rfl := Option.some.inj ho
        have o3 : ρ (.tmp 3) = .pointer (some ⟨w.heap.size + 1, 0, none⟩) := hout (.tmp 3) rfl
        have yg : y 2 = some true := (hdep ⟨2, .guard⟩ (by simp) rfl).2 10 rfl
        clear hdep hout
        obtain ⟨n, c0, c1, c2, c3, d0, d1⟩ := KR.out.later hBx
        refine .inl ⟨(by show (y 2 == some true) = true; rw [yg]; rfl), (Gives.val ?_ : Gives _ _ _ (.agg #[.int .i64 p, .int .i64 q]) _)⟩
        go_simp
      rcases i with _ | i
      · obtain rfl := Option.some.inj ho
        have e3 : ρ (.tmp 11) = .iface 160 (.agg #[.int .i64 a, .int .i64 b]) := (hdep ⟨3, .data⟩ (by simp) rfl).1 11 rfl
        have e4 : ρ (.tmp 12) = .agg #[.int .i64 p, .int .i64 q] := (hdep ⟨4, .data⟩ (by simp) rfl).1 12 rfl
        have yg : y 2 = some true := (hdep ⟨2, .guard⟩ (by simp) rfl).2 10 rfl
        clear hdep hout
        refine .inl ⟨?_, ?_⟩
        · show (y 2 == some true) = true
          rw [yg]; rfl
        show Gives _ _ _ (.bool true) _
        refine Gives.call (HF.out x) ?_
        go_simp
        go_invoke
        go_simp
      rcases i with _ | i
      · obtain rfl := Option.some.inj ho
        have e2 : ρ (.tmp 10) = .bool true := (hdep ⟨2, .data⟩ (by simp) rfl).1 10 rfl
        have e5 : ρ (.tmp 13) = .bool true := (hdep ⟨5, .data⟩ (by simp) rfl).1 13 rfl
        have ocn : ∀ v, ρ (.const v) = v := fun v => hout (.const v) rfl
        clear hdep hout
        refine .inl ⟨rfl, (Gives.val ?_ : Gives _ _ _ (.bool true) _)⟩
        go_simp
      rcases i with _ | i
      · obtain rfl := Option.some.inj ho
        have e6 : ρ (.tmp 14) = .bool true := (hdep ⟨6, .data⟩ (by simp) rfl).1 14 rfl
        clear hdep hout
        refine .inl ⟨rfl, (Gives.val ?_ : Gives _ _ _ (.bool true) _)⟩
        go_simp
      rcases i with _ | i
      · obtain rfl := Option.some.inj ho
        have o2 : ρ (.tmp 2) = .pointer (some ⟨w.heap.size, 0, none⟩) := hout (.tmp 2) rfl
        have yg : y 7 = some true := (hdep ⟨7, .guard⟩ (by simp) rfl).2 15 rfl
        clear hdep hout
        obtain ⟨n, c0, c1, c2, c3, d0, d1⟩ := KR.out.later hBx
        refine .inl ⟨(by show (y 7 == some true) = true; rw [yg]; rfl), (Gives.val ?_ : Gives _ _ _ (.agg #[.int .i64 3, .int .i64 a, .int .i64 b, .int .i64 c]) _)⟩
        go_simp
      rcases i with _ | i
      · obtain rfl := Option.some.inj ho
        have o5 : ρ (.tmp 5) = .iface 160 (.agg #[.int .i64 a, .int .i64 b]) := hout (.tmp 5) rfl
        have yg : y 7 = some true := (hdep ⟨7, .guard⟩ (by simp) rfl).2 15 rfl
        clear hdep hout
        refine .inl ⟨(by show (y 7 == some true) = true; rw [yg]; rfl), (Gives.val ?_ : Gives _ _ _ (.iface 160 (.agg #[.int .i64 a, .int .i64 b])) _)⟩
        go_simp
      rcases i with _ | i
      · obtain rfl := Option.some.inj ho
        have e9 : ρ (.tmp 17) = .iface 160 (.agg #[.int .i64 a, .int .i64 b]) := (hdep ⟨9, .data⟩ (by simp) rfl).1 17 rfl
        have yg : y 7 = some true := (hdep ⟨7, .guard⟩ (by simp) rfl).2 15 rfl
        have ofn : ∀ f, ρ (.func f) = .func (.func f) #[] #[] := fun f => hout (.func f) rfl
        clear hdep hout
        refine .inl ⟨?_, ?_⟩
        · show (y 7 == some true) = true
          rw [yg]; rfl
        show Gives _ _ _ (.string s) _
        refine Gives.call (HL.out x) ?_
        go_simp
      rcases i with _ | i
      · obtain rfl := Option.some.inj ho
        have e8 : ρ (.tmp 16) = .agg #[.int .i64 3, .int .i64 a, .int .i64 b, .int .i64 c] := (hdep ⟨8, .data⟩ (by simp) rfl).1 16 rfl
        have e10 : ρ (.tmp 18) = .string s := (hdep ⟨10, .data⟩ (by simp) rfl).1 18 rfl
        have yg : y 7 = some true := (hdep ⟨7, .guard⟩ (by simp) rfl).2 15 rfl
        have ofn : ∀ f, ρ (.func f) = .func (.func f) #[] #[] := fun f => hout (.func f) rfl
        clear hdep hout
        refine .inl ⟨?_, ?_⟩
        · show (y 7 == some true) = true
          rw [yg]; rfl
        show Gives _ _ _ (.bool r) _
        refine Gives.call (HR.out x) ?_
        go_simp
      rcases i with _ | i
      · obtain rfl := Option.some.inj ho
        have e7 : ρ (.tmp 15) = .bool true := (hdep ⟨7, .data⟩ (by simp) rfl).1 15 rfl
        have e11 : ρ (.tmp 19) = .bool r := (hdep ⟨11, .data⟩ (by simp) rfl).1 19 rfl
        have ocn : ∀ v, ρ (.const v) = v := fun v => hout (.const v) rfl
        clear hdep hout
        refine .inl ⟨rfl, (Gives.val ?_ : Gives _ _ _ (.bool r) _)⟩
        go_simp
      rcases i with _ | i
      · obtain rfl := Option.some.inj ho
        have e12 : ρ (.tmp 20) = .bool r := (hdep ⟨12, .data⟩ (by simp) rfl).1 20 rfl
        clear hdep hout
        refine .inl ⟨rfl, (Gives.val ?_ : Gives _ _ _ (.bool r) _)⟩
        go_simp
      cases ho
    case fin =>
      intro x hBx
      go_wp2_with fail
      go_ret
      exact ⟨rfl, hB1.trans (hBx.mono hB1.size)⟩

set_option maxRecDepth 100000 in
set_option maxHeartbeats 4000000 in
theorem insOk_do (a b c p q : Int) (w : World) : Calls Tryz.prog 57 #[aggI (4, a, b, c), .agg #[.int .i64 p, .int .i64 q]] w fun e w' => e = .returned (.bool (((inI a 0 2 && inI b 0 2) && inI c 1 6) && restF (lettersF 4) a b c)) ∧ Below w.heap.size w w' := by
  have hl3 := letters_ok 4
  obtain ⟨s, hs⟩ : ∃ s, lettersF 4 = s := ⟨_, rfl⟩
  obtain ⟨f, hf⟩ : ∃ f, ((inI a 0 2 && inI b 0 2) && inI c 1 6) = f := ⟨_, rfl⟩
  obtain ⟨r, hr⟩ : ∃ r, restF s a b c = r := ⟨_, rfl⟩
  rw [hs] at hl3
  have HF : Hid (∀ x : World, Calls Tryz.prog 176 #[.agg #[.int .i64 a, .int .i64 b, .int .i64 c], .agg #[.int .i64 p, .int .i64 q]] x fun e w' => e = .returned (.bool f) ∧ Below x.heap.size x w') := fun x => by have := do_fits a b c p q x; rw [hf] at this; exact this
  have HL : Hid (∀ x : World, Calls Tryz.prog 81 #[.iface 162 (.agg #[.int .i64 a, .int .i64 b, .int .i64 c])] x fun e w' => e = .returned (.string s) ∧ Below x.heap.size x w') := fun x => by
    have := lettersOf_any (4, a, b, c) x (by simp) (by simp)
    simp only [ifcF] at this
    refine this.mono ?_
    rintro e w' ⟨rfl, rfl⟩
    exact ⟨by rw [hs], Below.refl _ _⟩
  have HR : Hid (∀ x : World, Calls Tryz.prog 80 #[.agg #[.int .i64 4, .int .i64 a, .int .i64 b, .int .i64 c], .string s] x fun e w' => e = .returned (.bool r) ∧ Below x.heap.size x w') := fun x => by
    have := restIsZero_any 4 a b c s x hl3.1 hl3.2.1 hl3.2.2
    rw [hr] at this
    exact this
  rw [hs, hf, hr]
  clear hs hf hr hl3
  have hA : Below w.heap.size w ((w.alloc (.cells #[.int .i64 4, .int .i64 a, .int .i64 b, .int .i64 c] 104)).alloc (.cells #[.int .i64 p, .int .i64 q] 107)) := by go_grown
  have hR := Rm.new w 4 a b c p q
  unfold aggI
  simp only
  go_enter Tryz.func57, Tryz.ntmps57
  go_wp2_with fail
  refine (instructionOf_any (4, a, b, c) _).mono ?_
  rintro e w1 ⟨rfl, hb1⟩
  have hB1 := hA.trans (hb1.mono (by simp; omega))
  have KR : Hid (Rm w1 w.heap.size 4 a b c p q) := hR.later hb1
  clear hA hR hb1
  simp only [ifcF]
  go_wp2_with fail
  cases f
  · skip
    refine wp_region_vals (by kernel_rfl) (by kernel_rfl) (by kernel_rfl) (by kernel_rfl) (fun j => [.iface 162 (.agg #[.int .i64 a, .int .i64 b, .int .i64 c]), .bool true, .bool true, .iface 162 (.agg #[.int .i64 a, .int .i64 b, .int .i64 c]), .agg #[.int .i64 p, .int .i64 q], .bool false, .bool false, .bool false, undef, undef, undef, undef, .bool false, .bool false].getD j undef) w1 (Below.drew (Below.refl _ _)) ?step ⟨#[.agg #[.int .i64 4, .int .i64 a, .int .i64 b, .int .i64 c], .agg #[.int .i64 p, .int .i64 q], .pointer (some ⟨w.heap.size, 0, none⟩), .pointer (some ⟨w.heap.size + 1, 0, none⟩), .bool false, .iface 162 (.agg #[.int .i64 a, .int .i64 b, .int .i64 c]), .agg #[.int .i64 4, .int .i64 a, .int .i64 b, .int .i64 c], .iface 162 (.agg #[.int .i64 a, .int .i64 b, .int .i64 c]), .iface 162 (.agg #[.int .i64 a, .int .i64 b, .int .i64 c]), .bool true, .bool true, .iface 162 (.agg #[.int .i64 a, .int .i64 b, .int .i64 c]), .agg #[.int .i64 p, .int .i64 q], .bool false, .bool false, .bool false, undef, undef, undef, undef, .bool false], []⟩ (by kernel_rfl) ?fin
    case step =>
      intro i o ho ρ y x hBx hdep hout
      rcases i with _ | i
      · obtain rfl := Option.some.inj ho
        have o5 : ρ (.tmp 5) = .iface 162 (.agg #[.int .i64 a, .int .i64 b, .int .i64 c]) := hout (.tmp 5) rfl
        clear hdep hout
        refine .inl ⟨rfl, (Gives.val ?_ : Gives _ _ _ (.iface 162 (.agg #[.int .i64 a, .int .i64 b, .int .i64 c])) _)⟩
        go_simp
      rcases i with _ | i
      · obtain rfl := Option.some.inj ho
        have e0 : ρ (.tmp 8) = .iface 162 (.agg #[.int .i64 a, .int .i64 b, .int .i64 c]) := (hdep ⟨0, .data⟩ (by simp) rfl).1 8 rfl
        have ocn : ∀ v, ρ (.const v) = v := fun v => hout (.const v) rfl
        clear hdep hout
        refine .inl ⟨rfl, (Gives.val ?_ : Gives _ _ _ (.bool true) _)⟩
        go_simp
      rcases i with _ | i
      · obtain rfl := Option.some.inj ho
        have e1 : ρ (.tmp 9) = .bool true := (hdep ⟨1, .data⟩ (by simp) rfl).1 9 rfl
        clear hdep hout
        refine .inl ⟨rfl, (Gives.val ?_ : Gives _ _ _ (.bool true) _)⟩
        go_simp
      rcases i with _ | i
      · obtain rfl := Option.some.inj ho
        have o5 : ρ (.tmp 5) = .iface 162 (.agg #[.int .i64 a, .int .i64 b, .int .i64 c]) := hout (.tmp 5) rfl
        have yg : y 2 = some true := (hdep ⟨2, .guard⟩ (by simp) rfl).2 10 rfl
        clear hdep hout
        refine .inl ⟨(by show (y 2 == some true) = true; rw [yg]; rfl), (Gives.val ?_ : Gives _ _ _ (.iface 162 (.agg #[.int .i64 a, .int .i64 b, .int .i64 c])) _)⟩
        go_simp
      rcases i with _ | i
      · obtain rfl := Option.some.inj ho
        have o3 : ρ (.tmp 3) = .pointer (some ⟨w.heap.size + 1, 0, none⟩) := hout (.tmp 3) rfl
        have yg : y 2 = some true := (hdep ⟨2, .guard⟩ (by simp) rfl).2 10 rfl
        clear hdep hout
        obtain ⟨n, c0, c1, c2, c3, d0, d1⟩ := KR.out.later hBx
        refine .inl ⟨(by show (y 2 == some true) = true; rw [yg]; rfl), (Gives.val ?_ : Gives _ _ _ (.agg #[.int .i64 p, .int .i64 q]) _)⟩
        go_simp
      rcases i with _ | i
      · obtain rfl := Option.some.inj ho
        have e3 : ρ (.tmp 11) = .iface 162 (.agg #[.int .i64 a, .int .i64 b, .int .i64 c]) := (hdep ⟨3, .data⟩ (by simp) rfl).1 11 rfl
        have e4 : ρ (.tmp 12) = .agg #[.int .i64 p, .int .i64 q] := (hdep ⟨4, .data⟩ (by simp) rfl).1 12 rfl
        have yg : y 2 = some true := (hdep ⟨2, .guard⟩ (by simp) rfl).2 10 rfl
        clear hdep hout
        refine .inl ⟨?_, ?_⟩
        · show (y 2 == some true) = true
          rw [yg]; rfl
        show Gives _ _ _ (.bool false) _
        refine Gives.call (HF.out x) ?_
        go_simp
        go_invoke
        go_simp
      rcases i with _ | i
      · obtain rfl := Option.some.inj ho
        have e2 : ρ (.tmp 10) = .bool true := (hdep ⟨2, .data⟩ (by simp) rfl).1 10 rfl
        have e5 : ρ (.tmp 13) = .bool false := (hdep ⟨5, .data⟩ (by simp) rfl).1 13 rfl
        have ocn : ∀ v, ρ (.const v) = v := fun v => hout (.const v) rfl
        clear hdep hout
        refine .inl ⟨rfl, (Gives.val ?_ : Gives _ _ _ (.bool false) _)⟩
        go_simp
      rcases i with _ | i
      · obtain rfl := Option.some.inj ho
        have e6 : ρ (.tmp 14) = .bool false := (hdep ⟨6, .data⟩ (by simp) rfl).1 14 rfl
        clear hdep hout
        refine .inl ⟨rfl, (Gives.val ?_ : Gives _ _ _ (.bool false) _)⟩
        go_simp
      rcases i with _ | i
      · obtain rfl := Option.some.inj ho
        have yg : y 7 = some false := (hdep ⟨7, .guard⟩ (by simp) rfl).2 15 rfl
        exact .inr ⟨by show (y 7 == some true) = false; rw [yg]; rfl, rfl⟩
      rcases i with _ | i
      · obtain rfl := Option.some.inj ho
        have yg : y 7 = some false := (hdep ⟨7, .guard⟩ (by simp) rfl).2 15 rfl
        exact .inr ⟨by show (y 7 == some true) = false; rw [yg]; rfl, rfl⟩
      rcases i with _ | i
      · obtain rfl := Option.some.inj ho
        have yg : y 7 = some false := (hdep ⟨7, .guard⟩ (by simp) rfl).2 15 rfl
        exact .inr ⟨by show (y 7 == some true) = false; rw [yg]; rfl, rfl⟩
      rcases i with _ | i
      · obtain rfl := Option.some.inj ho
        have yg : y 7 = some false := (hdep ⟨7, .guard⟩ (by simp) rfl).2 15 rfl
        exact .inr ⟨by show (y 7 == some true) = false; rw [yg]; rfl, rfl⟩
      rcases i with _ | i
      · obtain rfl := Option.some.inj ho
        have e7 : ρ (.tmp 15) = .bool false := (hdep ⟨7, .data⟩ (by simp) rfl).1 15 rfl
        have e11 : ρ (.tmp 19) = undef := (hdep ⟨11, .data⟩ (by simp) rfl).1 19 rfl
        have ocn : ∀ v, ρ (.const v) = v := fun v => hout (.const v) rfl
        clear hdep hout
        refine .inl ⟨rfl, (Gives.val ?_ : Gives _ _ _ (.bool false) _)⟩
        go_simp
      rcases i with _ | i
      · obtain rfl := Option.some.inj ho
        have e12 : ρ (.tmp 20) = .bool false := (hdep ⟨12, .data⟩ (by simp) rfl).1 20 rfl
        clear hdep hout
        refine .inl ⟨rfl, (Gives.val ?_ : Gives _ _ _ (.bool false) _)⟩
        go_simp
      cases ho
    case fin =>
      intro x hBx
      go_wp2_with fail
      go_ret
      exact ⟨rfl, hB1.trans (hBx.mono hB1.size)⟩
  · skip
    refine wp_region_vals (by kernel_rfl) (by kernel_rfl) (by kernel_rfl) (by kernel_rfl) (fun j => [.iface 162 (.agg #[.int .i64 a, .int .i64 b, .int .i64 c]), .bool true, .bool true, .iface 162 (.agg #[.int .i64 a, .int .i64 b, .int .i64 c]), .agg #[.int .i64 p, .int .i64 q], .bool true, .bool true, .bool true, .agg #[.int .i64 4, .int .i64 a, .int .i64 b, .int .i64 c], .iface 162 (.agg #[.int .i64 a, .int .i64 b, .int .i64 c]), .string s, .bool r, .bool r, .bool r].getD j undef) w1 (Below.drew (Below.refl _ _)) ?step ⟨#[.agg #[.int .i64 4, .int .i64 a, .int .i64 b, .int .i64 c], .agg #[.int .i64 p, .int .i64 q], .pointer (some ⟨w.heap.size, 0, none⟩), .pointer (some ⟨w.heap.size + 1, 0, none⟩), .bool r, .iface 162 (.agg #[.int .i64 a, .int .i64 b, .int .i64 c]), .agg #[.int .i64 4, .int .i64 a, .int .i64 b, .int .i64 c], .iface 162 (.agg #[.int .i64 a, .int .i64 b, .int .i64 c]), .iface 162 (.agg #[.int .i64 a, .int .i64 b, .int .i64 c]), .bool true, .bool true, .iface 162 (.agg #[.int .i64 a, .int .i64 b, .int .i64 c]), .agg #[.int .i64 p, .int .i64 q], .bool true, .bool true, .bool true, .agg #[.int .i64 4, .int .i64 a, .int .i64 b, .int .i64 c], .iface 162 (.agg #[.int .i64 a, .int .i64 b, .int .i64 c]), .string s, .bool r, .bool r], []⟩ (by kernel_rfl) ?fin
    case step =>
      intro i o ho ρ y x hBx hdep hout
      rcases i with _ | i
      · obtain rfl := Option.some.inj ho
        have o5 : ρ (.tmp 5) = .iface 162 (.agg #[.int .i64 a, .int .i64 b, .int .i64 c]) := hout (.tmp 5) rfl
        clear hdep hout
        refine .inl ⟨rfl, (Gives.val ?_ : Gives _ _ _ (.iface 162 (.agg #[.int .i64 a, .int .i64 b, .int .i64 c])) _)⟩
        go_simp
      rcases i with _ | i
      · obtain rfl := Option.some.inj ho
        have e0 : ρ (.tmp 8) = .iface 162 (.agg #[.int .i64 a, .int .i64 b, .int .i64 c]) := (hdep ⟨0, .data⟩ (by simp) rfl).1 8 rfl
        have ocn : ∀ v, ρ (.const v) = v := fun v => hout (.const v) rfl
        clear hdep hout
        refine .inl ⟨rfl, (Gives.val ?_ : Gives _ _ _ (.bool true) _)⟩
        go_simp
      rcases i with _ | i
      · obtain rfl := Option.some.inj ho
        have e1 : ρ (.tmp 9) = .bool true := (hdep ⟨1, .data⟩ (by simp) rfl).1 9 rfl
        clear hdep hout
        refine .inl ⟨rfl, (Gives.val ?_ : Gives _ _ _ (.bool true) _)⟩
        go_simp
      rcases i with _ | i
      · obtain rfl := Option.some.inj ho
        have o5 : ρ (.tmp 5) = .iface 162 (.agg #[.int .i64 a, .int .i64 b, .int .i64 c]) := hout (.tmp 5) rfl
        have yg : y 2 = some true := (hdep ⟨2, .guard⟩ (by simp) rfl).2 10 rfl
        clear hdep hout
        refine .inl ⟨(by show (y 2 == some true) = true; rw [yg]; rfl), (Gives.val ?_ : Gives _ _ _ (.iface 162 (.agg #[.int .i64 a, .int .i64 b, .int .i64 c])) _)⟩
        go_simp
      rcases i with _ | i
      · obtain rfl := Option.some.inj ho
        have o3 : ρ (.tmp 3) = .pointer (some ⟨w.heap.size + 1, 0, none⟩) := hout (.tmp 3) rfl
        have yg : y 2 = some true := (hdep ⟨2, .guard⟩ (by simp) rfl).2 10 rfl
        clear hdep hout
        obtain ⟨n, c0, c1, c2, c3, d0, d1⟩ := KR.out.later hBx
        refine .inl ⟨(by show (y 2 == some true) = true; rw [yg]; rfl), (Gives.val ?_ : Gives _ _ _ (.agg #[.int .i64 p, .int .i64 q]) _)⟩
        go_simp
      rcases i with _ | i
      · obtain rfl := Option.some.inj ho
        have e3 : ρ (.tmp 11) = .iface 162 (.agg #[.int .i64 a, .int .i64 b, .int .i64 c]) := (hdep ⟨3, .data⟩ (by simp) rfl).1 11 rfl
        have e4 : ρ (.tmp 12) = .agg #[.int .i64 p, .int .i64 q] := (hdep ⟨4, .data⟩ (by simp) rfl).1 12 rfl
        have yg : y 2 = some true := (hdep ⟨2, .guard⟩ (by simp) rfl).2 10 rfl
        clear hdep hout
        refine .inl ⟨?_, ?_⟩
        · show (y 2 == some true) = true
          rw [yg]; rfl
        show Gives _ _ _ (.bool true) _
        refine Gives.call (HF.out x) ?_
        go_simp
        go_invoke
        go_simp
      rcases i with _ | i
      · obtain rfl := Option.some.inj ho
        have e2 : ρ (.tmp 10) = .bool true := (hdep ⟨2, .data⟩ (by simp) rfl).1 10 rfl
        have e5 : ρ (.tmp 13) = .bool true := (hdep ⟨5, .data⟩ (by simp) rfl).1 13 rfl
        have ocn : ∀ v, ρ (.const v) = v := fun v => hout (.const v) rfl
        clear hdep hout
        refine .inl ⟨rfl, (Gives.val ?_ : Gives _ _ _ (.bool true) _)⟩
        go_simp
      rcases i with _ | i
      · obtain rfl := Option.some.inj ho
        have e6 : ρ (.tmp 14) = .bool true := (hdep ⟨6, .data⟩ (by simp) rfl).1 14 rfl
        clear hdep hout
        refine .inl ⟨rfl, (Gives.val ?_ : Gives _ _ _ (.bool true) _)⟩
        go_simp
      rcases i with _ | i
      · obtain rfl := Option.some.inj ho
        have o2 : ρ (.tmp 2) = .pointer (some ⟨w.heap.size, 0, none⟩) := hout (.tmp 2) rfl
        have yg : y 7 = some true := (hdep ⟨7, .guard⟩ (by simp) rfl).2 15 rfl
        clear hdep hout
        obtain ⟨n, c0, c1, c2, c3, d0, d1⟩ := KR.out.later hBx
        refine .inl ⟨(by show (y 7 == some true) = true; rw [yg]; rfl), (Gives.val ?_ : Gives _ _ _ (.agg #[.int .i64 4, .int .i64 a, .int .i64 b, .int .i64 c]) _)⟩
        go_simp
      rcases i with _ | i
      · obtain rfl := Option.some.inj ho
        have o5 : ρ (.tmp 5) = .iface 162 (.agg #[.int .i64 a, .int .i64 b, .int .i64 c]) := hout (.tmp 5) rfl
        have yg : y 7 = some true := (hdep ⟨7, .guard⟩ (by simp) rfl).2 15 rfl
        clear hdep hout
        refine .inl ⟨(by show (y 7 == some true) = true; rw [yg]; rfl), (Gives.val ?_ : Gives _ _ _ (.iface 162 (.agg #[.int .i64 a, .int .i64 b, .int .i64 c])) _)⟩
        go_simp
      rcases i with _ | i
      · obtain rfl := Option.some.inj ho
        have e9 : ρ (.tmp 17) = .iface 162 (.agg #[.int .i64 a, .int .i64 b, .int .i64 c]) := (hdep ⟨9, .data⟩ (by simp) rfl).1 17 rfl
        have yg : y 7 = some true := (hdep ⟨7, .guard⟩ (by simp) rfl).2 15 rfl
        have ofn : ∀ f, ρ (.func f) = .func (.func f) #[] #[] := fun f => hout (.func f) rfl
        clear hdep hout
        refine .inl ⟨?_, ?_⟩
        · show (y 7 == some true) = true
          rw [yg]; rfl
        show Gives _ _ _ (.string s) _
        refine Gives.call (HL.out x) ?_
        go_simp
      rcases i with _ | i
      · obtain rfl := Option.some.inj ho
        have e8 : ρ (.tmp 16) = .agg #[.int .i64 4, .int .i64 a, .int .i64 b, .int .i64 c] := (hdep ⟨8, .data⟩ (by simp) rfl).1 16 rfl
        have e10 : ρ (.tmp 18) = .string s := (hdep ⟨10, .data⟩ (by simp) rfl).1 18 rfl
        have yg : y 7 = some true := (hdep ⟨7, .guard⟩ (by simp) rfl).2 15 rfl
        have ofn : ∀ f, ρ (.func f) = .func (.func f) #[] #[] := fun f => hout (.func f) rfl
        clear hdep hout
        refine .inl ⟨?_, ?_⟩
        · show (y 7 == some true) = true
          rw [yg]; rfl
        show Gives _ _ _ (.bool r) _
        refine Gives.call (HR.out x) ?_
        go_simp
      rcases i with _ | i
      · obtain rfl := Option.some.inj ho
        have e7 : ρ (.tmp 15) = .bool true := (hdep ⟨7, .data⟩ (by simp) rfl).1 15 rfl
        have e11 : ρ (.tmp 19) = .bool r := (hdep ⟨11, .data⟩ (by simp) rfl).1 19 rfl
        have ocn : ∀ v, ρ (.const v) = v := fun v => hout (.const v) rfl
        clear hdep hout
        refine .inl ⟨rfl, (Gives.val ?_ : Gives _ _ _ (.bool r) _)⟩
        go_simp
      rcases i with _ | i
      · obtain rfl := Option.some.inj ho
        have e12 : ρ (.tmp 20) = .bool r := (hdep ⟨12, .data⟩ (by simp) rfl).1 20 rfl
        clear hdep hout
        refine .inl ⟨rfl, (Gives.val ?_ : Gives _ _ _ (.bool r) _)⟩
        go_simp
      cases ho
    case fin =>
      intro x hBx
      go_wp2_with fail
      go_ret
      exact ⟨rfl, hB1.trans (hBx.mono hB1.size)⟩
end Go.Proofs.YtlkebkajdlgebaaGreat

/-
  Whether an instruction is ok, as the program says it: some kinds.
-/
namespace Go.Proofs.YtlkebkajdlgebaaGreat
open Go.RowKit
set_option linter.unusedVariables false
set_option linter.unusedSimpArgs false

set_option maxRecDepth 100000 in
set_option maxHeartbeats 4000000 in
theorem insOk_go (a b c p q : Int) (w : World) : Calls Tryz.prog 57 #[aggI (5, a, b, c), .agg #[.int .i64 p, .int .i64 q]] w fun e w' => e = .returned (.bool ((inI c 0 q) && restF (lettersF 5) a b c)) ∧ Below w.heap.size w w' := by
  have hl3 := letters_ok 5
  obtain ⟨s, hs⟩ : ∃ s, lettersF 5 = s := ⟨_, rfl⟩
  obtain ⟨f, hf⟩ : ∃ f, (inI c 0 q) = f := ⟨_, rfl⟩
  obtain ⟨r, hr⟩ : ∃ r, restF s a b c = r := ⟨_, rfl⟩
  rw [hs] at hl3
  have HF : Hid (∀ x : World, Calls Tryz.prog 179 #[.agg #[.int .i64 c], .agg #[.int .i64 p, .int .i64 q]] x fun e w' => e = .returned (.bool f) ∧ Below x.heap.size x w') := fun x => by have := go_fits c p q x; rw [hf] at this; exact this
  have HL : Hid (∀ x : World, Calls Tryz.prog 81 #[.iface 164 (.agg #[.int .i64 c])] x fun e w' => e = .returned (.string s) ∧ Below x.heap.size x w') := fun x => by
    have := lettersOf_any (5, a, b, c) x (by simp) (by simp)
    simp only [ifcF] at this
    refine this.mono ?_
    rintro e w' ⟨rfl, rfl⟩
    exact ⟨by rw [hs], Below.refl _ _⟩
  have HR : Hid (∀ x : World, Calls Tryz.prog 80 #[.agg #[.int .i64 5, .int .i64 a, .int .i64 b, .int .i64 c], .string s] x fun e w' => e = .returned (.bool r) ∧ Below x.heap.size x w') := fun x => by
    have := restIsZero_any 5 a b c s x hl3.1 hl3.2.1 hl3.2.2
    rw [hr] at this
    exact this
  rw [hs, hf, hr]
  clear hs hf hr hl3
  have hA : Below w.heap.size w ((w.alloc (.cells #[.int .i64 5, .int .i64 a, .int .i64 b, .int .i64 c] 104)).alloc (.cells #[.int .i64 p, .int .i64 q] 107)) := by go_grown
  have hR := Rm.new w 5 a b c p q
  unfold aggI
  simp only
  go_enter Tryz.func57, Tryz.ntmps57
  go_wp2_with fail
  refine (instructionOf_any (5, a, b, c) _).mono ?_
  rintro e w1 ⟨rfl, hb1⟩
  have hB1 := hA.trans (hb1.mono (by simp; omega))
  have KR : Hid (Rm w1 w.heap.size 5 a b c p q) := hR.later hb1
  clear hA hR hb1
  simp only [ifcF]
  go_wp2_with fail
  cases f
  · skip
    refine wp_region_vals (by kernel_rfl) (by kernel_rfl) (by kernel_rfl) (by kernel_rfl) (fun j => [.iface 164 (.agg #[.int .i64 c]), .bool true, .bool true, .iface 164 (.agg #[.int .i64 c]), .agg #[.int .i64 p, .int .i64 q], .bool false, .bool false, .bool false, undef, undef, undef, undef, .bool false, .bool false].getD j undef) w1 (Below.drew (Below.refl _ _)) ?step ⟨#[.agg #[.int .i64 5, .int .i64 a, .int .i64 b, .int .i64 c], .agg #[.int .i64 p, .int .i64 q], .pointer (some ⟨w.heap.size, 0, none⟩), .pointer (some ⟨w.heap.size + 1, 0, none⟩), .bool false, .iface 164 (.agg #[.int .i64 c]), .agg #[.int .i64 5, .int .i64 a, .int .i64 b, .int .i64 c], .iface 164 (.agg #[.int .i64 c]), .iface 164 (.agg #[.int .i64 c]), .bool true, .bool true, .iface 164 (.agg #[.int .i64 c]), .agg #[.int .i64 p, .int .i64 q], .bool false, .bool false, .bool false, undef, undef, undef, undef, .bool false], []⟩ (by kernel_rfl) ?fin
    case step =>
      intro i o ho ρ y x hBx hdep hout
      rcases i with _ | i
      · obtain rfl := Option.some.inj ho
        have o5 : ρ (.tmp 5) = .iface 164 (.agg #[.int .i64 c]) := hout (.tmp 5) rfl
        clear hdep hout
        refine .inl ⟨rfl, (Gives.val ?_ : Gives _ _ _ (.iface 164 (.agg #[.int .i64 c])) _)⟩
        go_simp
      rcases i with _ | i
      · obtain rfl := Option.some.inj ho
        have e0 : ρ (.tmp 8) = .iface 164 (.agg #[.int .i64 c]) := (hdep ⟨0, .data⟩ (by simp) rfl).1 8 rfl
        have ocn : ∀ v, ρ (.const v) = v := fun v => hout (.const v) rfl
        clear hdep hout
        refine .inl ⟨rfl, (Gives.val ?_ : Gives _ _ _ (.bool true) _)⟩
        go_simp
      rcases i with _ | i
      · obtain rfl := Option.some.inj ho
        have e1 : ρ (.tmp 9) = .bool true := (hdep ⟨1, .data⟩ (by simp) rfl).1 9 rfl
        clear hdep hout
        refine .inl ⟨rfl, (Gives.val ?_ : Gives _ _ _ (.bool true) _)⟩
        go_simp
      rcases i with _ | i
      · obtain rfl := Option.some.inj ho
        have o5 : ρ (.tmp 5) = .iface 164 (.agg #[.int .i64 c]) := hout (.tmp 5) rfl
        have yg : y 2 = some true := (hdep ⟨2, .guard⟩ (by simp) rfl).2 10 rfl
        clear hdep hout
        refine .inl ⟨(by show (y 2 == some true) = true; rw [yg]; rfl), (Gives.val ?_ : Gives _ _ _ (.iface 164 (.agg #[.int .i64 c])) _)⟩
        go_simp
      rcases i with _ | i
      · obtain rfl := Option.some.inj ho
        have o3 : ρ (.tmp 3) = .pointer (some ⟨w.heap.size + 1, 0, none⟩) := hout (.tmp 3) rfl
        have yg : y 2 = some true := (hdep ⟨2, .guard⟩ (by simp) rfl).2 10 rfl
        clear hdep hout
        obtain ⟨n, c0, c1, c2, c3, d0, d1⟩ := KR.out.later hBx
        refine .inl ⟨(by show (y 2 == some true) = true; rw [yg]; rfl), (Gives.val ?_ : Gives _ _ _ (.agg #[.int .i64 p, .int .i64 q]) _)⟩
        go_simp
      rcases i with _ | i
      · obtain rfl := Option.some.inj ho
        have e3 : ρ (.tmp 11) = .iface 164 (.agg #[.int .i64 c]) := (hdep ⟨3, .data⟩ (by simp) rfl).1 11 rfl
        have e4 : ρ (.tmp 12) = .agg #[.int .i64 p, .int .i64 q] := (hdep ⟨4, .data⟩ (by simp) rfl).1 12 rfl
        have yg : y 2 = some true := (hdep ⟨2, .guard⟩ (by simp) rfl).2 10 rfl
        clear hdep hout
        refine .inl ⟨?_, ?_⟩
        · show (y 2 == some true) = true
          rw [yg]; rfl
        show Gives _ _ _ (.bool false) _
        refine Gives.call (HF.out x) ?_
        go_simp
        go_invoke
        go_simp
      rcases i with _ | i
      · obtain rfl := Option.some.inj ho
        have e2 : ρ (.tmp 10) = .bool true := (hdep ⟨2, .data⟩ (by simp) rfl).1 10 rfl
        have e5 : ρ (.tmp 13) = .bool false := (hdep ⟨5, .data⟩ (by simp) rfl).1 13 rfl
        have ocn : ∀ v, ρ (.const v) = v := fun v => hout (.const v) rfl
        clear hdep hout
        refine .inl ⟨rfl, (Gives.val ?_ : Gives _ _ _ (.bool false) _)⟩
        go_simp
      rcases i with _ | i
      · obtain rfl := Option.some.inj ho
        have e6 : ρ (.tmp 14) = .bool false := (hdep ⟨6, .data⟩ (by simp) rfl).1 14 rfl
        clear hdep hout
        refine .inl ⟨rfl, (Gives.val ?_ : Gives _ _ _ (.bool false) _)⟩
        go_simp
      rcases i with _ | i
      · obtain rfl := Option.some.inj ho
        have yg : y 7 = some false := (hdep ⟨7, .guard⟩ (by simp) rfl).2 15 rfl
        exact .inr ⟨by show (y 7 == some true) = false; rw [yg]; rfl, rfl⟩
      rcases i with _ | i
      · obtain rfl := Option.some.inj ho
        have yg : y 7 = some false := (hdep ⟨7, .guard⟩ (by simp) rfl).2 15 rfl
        exact .inr ⟨by show (y 7 == some true) = false; rw [yg]; rfl, rfl⟩
      rcases i with _ | i
      · obtain rfl := Option.some.inj ho
        have yg : y 7 = some false := (hdep ⟨7, .guard⟩ (by simp) rfl).2 15 rfl
        exact .inr ⟨by show (y 7 == some true) = false; rw [yg]; rfl, rfl⟩
      rcases i with _ | i
      · obtain rfl := Option.some.inj ho
        have yg : y 7 = some false := (hdep ⟨7, .guard⟩ (by simp) rfl).2 15 rfl
        exact .inr ⟨by show (y 7 == some true) = false; rw [yg]; rfl, rfl⟩
      rcases i with _ | i
      · obtain rfl := Option.some.inj ho
        have e7 : ρ (.tmp 15) = .bool false := (hdep ⟨7, .data⟩ (by simp) rfl).1 15 rfl
        have e11 : ρ (.tmp 19) = undef := (hdep ⟨11, .data⟩ (by simp) rfl).1 19 rfl
        have ocn : ∀ v, ρ (.const v) = v := fun v => hout (.const v) rfl
        clear hdep hout
        refine .inl ⟨rfl, (Gives.val ?_ : Gives _ _ _ (.bool false) _)⟩
        go_simp
      rcases i with _ | i
      · obtain rfl := Option.some.inj ho
        have e12 : ρ (.tmp 20) = .bool false := (hdep ⟨12, .data⟩ (by simp) rfl).1 20 rfl
        clear hdep hout
        refine .inl ⟨rfl, (Gives.val ?_ : Gives _ _ _ (.bool false) _)⟩
        go_simp
      cases ho
    case fin =>
      intro x hBx
      go_wp2_with fail
      go_ret
      exact ⟨rfl, hB1.trans (hBx.mono hB1.size)⟩
  · skip
    refine wp_region_vals (by kernel_rfl) (by kernel_rfl) (by kernel_rfl) (by kernel_rfl) (fun j => [.iface 164 (.agg #[.int .i64 c]), .bool true, .bool true, .iface 164 (.agg #[.int .i64 c]), .agg #[.int .i64 p, .int .i64 q], .bool true, .bool true, .bool true, .agg #[.int .i64 5, .int .i64 a, .int .i64 b, .int .i64 c], .iface 164 (.agg #[.int .i64 c]), .string s, .bool r, .bool r, .bool r].getD j undef) w1 (Below.drew (Below.refl _ _)) ?step ⟨#[.agg #[.int .i64 5, .int .i64 a, .int .i64 b, .int .i64 c], .agg #[.int .i64 p, .int .i64 q], .pointer (some ⟨w.heap.size, 0, none⟩), .pointer (some ⟨w.heap.size + 1, 0, none⟩), .bool r, .iface 164 (.agg #[.int .i64 c]), .agg #[.int .i64 5, .int .i64 a, .int .i64 b, .int .i64 c], .iface 164 (.agg #[.int .i64 c]), .iface 164 (.agg #[.int .i64 c]), .bool true, .bool true, .iface 164 (.agg #[.int .i64 c]), .agg #[.int .i64 p, .int .i64 q], .bool true, .bool true, .bool true, .agg #[.int .i64 5, .int .i64 a, .int .i64 b, .int .i64 c], .iface 164 (.agg #[.int .i64 c]), .string s, .bool r, .bool r], []⟩ (by kernel_rfl) ?fin
    case step =>
      intro i o ho ρ y x hBx hdep hout
      rcases i with _ | i
      · obtain rfl := Option.some.inj ho
        have o5 : ρ (.tmp 5) = .iface 164 (.agg #[.int .i64 c]) := hout (.tmp 5) rfl
        clear hdep hout
        refine .inl ⟨rfl, (Gives.val ?_ : Gives _ _ _ (.iface 164 (.agg #[.int .i64 c])) _)⟩
        go_simp
      rcases i with _ | i
      · obtain rfl := Option.some.inj ho
        have e0 : ρ (.tmp 8) = .iface 164 (.agg #[.int .i64 c]) := (hdep ⟨0, .data⟩ (by simp) rfl).1 8 rfl
        have ocn : ∀ v, ρ (.const v) = v := fun v => hout (.const v) rfl
        clear hdep hout
        refine .inl ⟨rfl, (Gives.val ?_ : Gives _ _ _ (.bool true) _)⟩
        go_simp
      rcases i with _ | i
      · obtain rfl := Option.some.inj ho
        have e1 : ρ (.tmp 9) = .bool true := (hdep ⟨1, .data⟩ (by simp) rfl).1 9 rfl
        clear hdep hout
        refine .inl ⟨rfl, (Gives.val ?_ : Gives _ _ _ (.bool true) _)⟩
        go_simp
      rcases i with _ | i
      · obtain rfl := Option.some.inj ho
        have o5 : ρ (.tmp 5) = .iface 164 (.agg #[.int .i64 c]) := hout (.tmp 5) rfl
        have yg : y 2 = some true := (hdep ⟨2, .guard⟩ (by simp) rfl).2 10 rfl
        clear hdep hout
        refine .inl ⟨(by show (y 2 == some true) = true; rw [yg]; rfl), (Gives.val ?_ : Gives _ _ _ (.iface 164 (.agg #[.int .i64 c])) _)⟩
        go_simp
      rcases i with _ | i
      · obtain rfl := Option.some.inj ho
        have o3 : ρ (.tmp 3) = .pointer (some ⟨w.heap.size + 1, 0, none⟩) := hout (.tmp 3) rfl
        have yg : y 2 = some true := (hdep ⟨2, .guard⟩ (by simp) rfl).2 10 rfl
        clear hdep hout
        obtain ⟨n, c0, c1, c2, c3, d0, d1⟩ := KR.out.later hBx
        refine .inl ⟨(by show (y 2 == some true) = true; rw [yg]; rfl), (Gives.val ?_ : Gives _ _ _ (.agg #[.int .i64 p, .int .i64 q]) _)⟩
        go_simp
      rcases i with _ | i
      · obtain rfl := Option.some.inj ho
        have e3 : ρ (.tmp 11) = .iface 164 (.agg #[.int .i64 c]) := (hdep ⟨3, .data⟩ (by simp) rfl).1 11 rfl
        have e4 : ρ (.tmp 12) = .agg #[.int .i64 p, .int .i64 q] := (hdep ⟨4, .data⟩ (by simp) rfl).1 12 rfl
        have yg : y 2 = some true := (hdep ⟨2, .guard⟩ (by simp) rfl).2 10 rfl
        clear hdep hout
        refine .inl ⟨?_, ?_⟩
        · show (y 2 == some true) = true
          rw [yg]; rfl
        show Gives _ _ _ (.bool true) _
        refine Gives.call (HF.out x) ?_
        go_simp
        go_invoke
        go_simp
      rcases i with _ | i
      · obtain rfl := Option.some.inj ho
        have e2 : ρ (.tmp 10) = .bool true := (hdep ⟨2, .data⟩ (by simp) rfl).1 10 rfl
        have e5 : ρ (.tmp 13) = .bool true := (hdep ⟨5, .data⟩ (by simp) rfl).1 13 rfl
        have ocn : ∀ v, ρ (.const v) = v := fun v => hout (.const v) rfl
        clear hdep hout
        refine .inl ⟨rfl, (Gives.val ?_ : Gives _ _ _ (.bool true) _)⟩
        go_simp
      rcases i with _ | i
      · obtain rfl := Option.some.inj ho
        have e6 : ρ (.tmp 14) = .bool true := (hdep ⟨6, .data⟩ (by simp) rfl).1 14 rfl
        clear hdep hout
        refine .inl ⟨rfl, (Gives.val ?_ : Gives _ _ _ (.bool true) _)⟩
        go_simp
      rcases i with _ | i
      · obtain rfl := Option.some.inj ho
        have o2 : ρ (.tmp 2) = .pointer (some ⟨w.heap.size, 0, none⟩) := hout (.tmp 2) rfl
        have yg : y 7 = some true := (hdep ⟨7, .guard⟩ (by simp) rfl).2 15 rfl
        clear hdep hout
        obtain ⟨n, c0, c1, c2, c3, d0, d1⟩ := KR.out.later hBx
        refine .inl ⟨(by show (y 7 == some true) = true; rw [yg]; rfl), (Gives.val ?_ : Gives _ _ _ (.agg #[.int .i64 5, .int .i64 a, .int .i64 b, .int .i64 c]) _)⟩
        go_simp
      rcases i with _ | i
      · obtain rfl := Option.some.inj ho
        have o5 : ρ (.tmp 5) = .iface 164 (.agg #[.int .i64 c]) := hout (.tmp 5) rfl
        have yg : y 7 = some true := (hdep ⟨7, .guard⟩ (by simp) rfl).2 15 rfl
        clear hdep hout
        refine .inl ⟨(by show (y 7 == some true) = true; rw [yg]; rfl), (Gives.val ?_ : Gives _ _ _ (.iface 164 (.agg #[.int .i64 c])) _)⟩
        go_simp
      rcases i with _ | i
      · obtain rfl := Option.some.inj ho
        have e9 : ρ (.tmp 17) = .iface 164 (.agg #[.int .i64 c]) := (hdep ⟨9, .data⟩ (by simp) rfl).1 17 rfl
        have yg : y 7 = some true := (hdep ⟨7, .guard⟩ (by simp) rfl).2 15 rfl
        have ofn : ∀ f, ρ (.func f) = .func (.func f) #[] #[] := fun f => hout (.func f) rfl
        clear hdep hout
        refine .inl ⟨?_, ?_⟩
        · show (y 7 == some true) = true
          rw [yg]; rfl
        show Gives _ _ _ (.string s) _
        refine Gives.call (HL.out x) ?_
        go_simp
      rcases i with _ | i
      · obtain rfl := Option.some.inj ho
        have e8 : ρ (.tmp 16) = .agg #[.int .i64 5, .int .i64 a, .int .i64 b, .int .i64 c] := (hdep ⟨8, .data⟩ (by simp) rfl).1 16 rfl
        have e10 : ρ (.tmp 18) = .string s := (hdep ⟨10, .data⟩ (by simp) rfl).1 18 rfl
        have yg : y 7 = some true := (hdep ⟨7, .guard⟩ (by simp) rfl).2 15 rfl
        have ofn : ∀ f, ρ (.func f) = .func (.func f) #[] #[] := fun f => hout (.func f) rfl
        clear hdep hout
        refine .inl ⟨?_, ?_⟩
        · show (y 7 == some true) = true
          rw [yg]; rfl
        show Gives _ _ _ (.bool r) _
        refine Gives.call (HR.out x) ?_
        go_simp
      rcases i with _ | i
      · obtain rfl := Option.some.inj ho
        have e7 : ρ (.tmp 15) = .bool true := (hdep ⟨7, .data⟩ (by simp) rfl).1 15 rfl
        have e11 : ρ (.tmp 19) = .bool r := (hdep ⟨11, .data⟩ (by simp) rfl).1 19 rfl
        have ocn : ∀ v, ρ (.const v) = v := fun v => hout (.const v) rfl
        clear hdep hout
        refine .inl ⟨rfl, (Gives.val ?_ : Gives _ _ _ (.bool r) _)⟩
        go_simp
      rcases i with _ | i
      · obtain rfl := Option.some.inj ho
        have e12 : ρ (.tmp 20) = .bool r := (hdep ⟨12, .data⟩ (by simp) rfl).1 20 rfl
        clear hdep hout
        refine .inl ⟨rfl, (Gives.val ?_ : Gives _ _ _ (.bool r) _)⟩
        go_simp
      cases ho
    case fin =>
      intro x hBx
      go_wp2_with fail
      go_ret
      exact ⟨rfl, hB1.trans (hBx.mono hB1.size)⟩

set_option maxRecDepth 100000 in
set_option maxHeartbeats 4000000 in
theorem insOk_less (a b c p q : Int) (w : World) : Calls Tryz.prog 57 #[aggI (6, a, b, c), .agg #[.int .i64 p, .int .i64 q]] w fun e w' => e = .returned (.bool (((inI a 0 2 && inI b 0 2) && inI c 0 q) && restF (lettersF 6) a b c)) ∧ Below w.heap.size w w' := by
  have hl3 := letters_ok 6
  obtain ⟨s, hs⟩ : ∃ s, lettersF 6 = s := ⟨_, rfl⟩
  obtain ⟨f, hf⟩ : ∃ f, ((inI a 0 2 && inI b 0 2) && inI c 0 q) = f := ⟨_, rfl⟩
  obtain ⟨r, hr⟩ : ∃ r, restF s a b c = r := ⟨_, rfl⟩
  rw [hs] at hl3
  have HF : Hid (∀ x : World, Calls Tryz.prog 181 #[.agg #[.int .i64 a, .int .i64 b, .int .i64 c], .agg #[.int .i64 p, .int .i64 q]] x fun e w' => e = .returned (.bool f) ∧ Below x.heap.size x w') := fun x => by have := less_fits a b c p q x; rw [hf] at this; exact this
  have HL : Hid (∀ x : World, Calls Tryz.prog 81 #[.iface 166 (.agg #[.int .i64 a, .int .i64 b, .int .i64 c])] x fun e w' => e = .returned (.string s) ∧ Below x.heap.size x w') := fun x => by
    have := lettersOf_any (6, a, b, c) x (by simp) (by simp)
    simp only [ifcF] at this
    refine this.mono ?_
    rintro e w' ⟨rfl, rfl⟩
    exact ⟨by rw [hs], Below.refl _ _⟩
  have HR : Hid (∀ x : World, Calls Tryz.prog 80 #[.agg #[.int .i64 6, .int .i64 a, .int .i64 b, .int .i64 c], .string s] x fun e w' => e = .returned (.bool r) ∧ Below x.heap.size x w') := fun x => by
    have := restIsZero_any 6 a b c s x hl3.1 hl3.2.1 hl3.2.2
    rw [hr] at this
    exact this
  rw [hs, hf, hr]
  clear hs hf hr hl3
  have hA : Below w.heap.size w ((w.alloc (.cells #[.int .i64 6, .int .i64 a, .int .i64 b, .int .i64 c] 104)).alloc (.cells #[.int .i64 p, .int .i64 q] 107)) := by go_grown
  have hR := Rm.new w 6 a b c p q
  unfold aggI
  simp only
  go_enter Tryz.func57, Tryz.ntmps57
  go_wp2_with fail
  refine (instructionOf_any (6, a, b, c) _).mono ?_
  rintro e w1 ⟨rfl, hb1⟩
  have hB1 := hA.trans (hb1.mono (by simp; omega))
  have KR : Hid (Rm w1 w.heap.size 6 a b c p q) := hR.later hb1
  clear hA hR hb1
  simp only [ifcF]
  go_wp2_with fail
  cases f
  · skip
    refine wp_region_vals (by kernel_rfl) (by kernel_rfl) (by kernel_rfl) (by kernel_rfl) (fun j => [.iface 166 (.agg #[.int .i64 a, .int .i64 b, .int .i64 c]), .bool true, .bool true, .iface 166 (.agg #[.int .i64 a, .int .i64 b, .int .i64 c]), .agg #[.int .i64 p, .int .i64 q], .bool false, .bool false, .bool false, undef, undef, undef, undef, .bool false, .bool false].getD j undef) w1 (Below.drew (Below.refl _ _)) ?step ⟨#[.agg #[.int .i64 6, .int .i64 a, .int .i64 b, .int .i64 c], .agg #[.int .i64 p, .int .i64 q], .pointer (some ⟨w.heap.size, 0, none⟩), .pointer (some ⟨w.heap.size + 1, 0, none⟩), .bool false, .iface 166 (.agg #[.int .i64 a, .int .i64 b, .int .i64 c]), .agg #[.int .i64 6, .int .i64 a, .int .i64 b, .int .i64 c], .iface 166 (.agg #[.int .i64 a, .int .i64 b, .int .i64 c]), .iface 166 (.agg #[.int .i64 a, .int .i64 b, .int .i64 c]), .bool true, .bool true, .iface 166 (.agg #[.int .i64 a, .int .i64 b, .int .i64 c]), .agg #[.int .i64 p, .int .i64 q], .bool false, .bool false, .bool false, undef, undef, undef, undef, .bool false], []⟩ (by kernel_rfl) ?fin
    case step =>
      intro i o ho ρ y x hBx hdep hout
      rcases i with _ | i
      · obtain rfl := Option.some.inj ho
        have o5 : ρ (.tmp 5) = .iface 166 (.agg #[.int .i64 a, .int .i64 b, .int .i64 c]) := hout (.tmp 5) rfl
        clear hdep hout
        refine .inl ⟨rfl, (Gives.val ?_ : Gives _ _ _ (.iface 166 (.agg #[.int .i64 a, .int .i64 b, .int .i64 c])) _)⟩
        go_simp
      rcases i with _ | i
      · obtain rfl := Option.some.inj ho
        have e0 : ρ (.tmp 8) = .iface 166 (.agg #[.int .i64 a, .int .i64 b, .int .i64 c]) := (hdep ⟨0, .data⟩ (by simp) rfl).1 8 rfl
        have ocn : ∀ v, ρ (.const v) = v := fun v => hout (.const v) rfl
        clear hdep hout
        refine .inl ⟨rfl, (Gives.val ?_ : Gives _ _ _ (.bool true) _)⟩
        go_simp
      rcases i with _ | i
      · obtain rfl := Option.some.inj ho
        have e1 : ρ (.tmp 9) = .bool true := (hdep ⟨1, .data⟩ (by simp) rfl).1 9 rfl
        clear hdep hout
        refine .inl ⟨rfl, (Gives.val ?_ : Gives _ _ _ (.bool true) _)⟩
        go_simp
      rcases i with _ | i
      · obtain rfl := Option.some.inj ho
        have o5 : ρ (.tmp 5) = .iface 166 (.agg #[.int .i64 a, .int .i64 b, .int .i64 c]) := hout (.tmp 5) rfl
        have yg : y 2 = some true := (hdep ⟨2, .guard⟩ (by simp) rfl).2 10 rfl
        clear hdep hout
        refine .inl ⟨(by show (y 2 == some true) = true; rw [yg]; rfl), (Gives.val ?_ : Gives _ _ _ (.iface 166 (.agg #[.int .i64 a, .int .i64 b, .int .i64 c])) _)⟩
        go_simp
      rcases i with _ | i
      · obtain rfl := Option.some.inj ho
        have o3 : ρ (.tmp 3) = .pointer (some ⟨w.heap.size + 1, 0, none⟩) := hout (.tmp 3) rfl
        have yg : y 2 = some true := (hdep ⟨2, .guard⟩ (by simp) rfl).2 10 rfl
        clear hdep hout
        obtain ⟨n, c0, c1, c2, c3, d0, d1⟩ := KR.out.later hBx
        refine .inl ⟨(by show (y 2 == some true) = true; rw [yg]; rfl), (Gives.val ?_ : Gives _ _ _ (.agg #[.int .i64 p, .int .i64 q]) _)⟩
        go_simp
      rcases i with _ | i
      · obtain rfl := Option.some.inj ho
        have e3 : ρ (.tmp 11) = .iface 166 (.agg #[.int .i64 a, .int .i64 b, .int .i64 c]) := (hdep ⟨3, .data⟩ (by simp) rfl).1 11 rfl
        have e4 : ρ (.tmp 12) = .agg #[.int .i64 p, .int .i64 q] := (hdep ⟨4, .data⟩ (by simp) rfl).1 12 rfl
        have yg : y 2 = some true := (hdep ⟨2, .guard⟩ (by simp) rfl).2 10 rfl
        clear hdep hout
        refine .inl ⟨?_, ?_⟩
        · show (y 2 == some true) = true
          rw [yg]; rfl
        show Gives _ _ _ (.bool false) _
        refine Gives.call (HF.out x) ?_
        go_simp
        go_invoke
        go_simp
      rcases i with _ | i
      · obtain rfl := Option.some.inj ho
        have e2 : ρ (.tmp 10) = .bool true := (hdep ⟨2, .data⟩ (by simp) rfl).1 10 rfl
        have e5 : ρ (.tmp 13) = .bool false := (hdep ⟨5, .data⟩ (by simp) rfl).1 13 rfl
        have ocn : ∀ v, ρ (.const v) = v := fun v => hout (.const v) rfl
        clear hdep hout
        refine .inl ⟨rfl, (Gives.val ?_ : Gives _ _ _ (.bool false) _)⟩
        go_simp
      rcases i with _ | i
      · obtain rfl := Option.some.inj ho
        have e6 : ρ (.tmp 14) = .bool false := (hdep ⟨6, .data⟩ (by simp) rfl).1 14 rfl
        clear hdep hout
        refine .inl ⟨rfl, (Gives.val ?_ : Gives _ _ _ (.bool false) _)⟩
        go_simp
      rcases i with _ | i
      · obtain rfl := Option.some.inj ho
        have yg : y 7 = some false := (hdep ⟨7, .guard⟩ (by simp) rfl).2 15 rfl
        exact .inr ⟨by show (y 7 == some true) = false; rw [yg]; rfl, rfl⟩
      rcases i with _ | i
      · obtain rfl := Option.some.inj ho
        have yg : y 7 = some false := (hdep ⟨7, .guard⟩ (by simp) rfl).2 15 rfl
        exact .inr ⟨by show (y 7 == some true) = false; rw [yg]; rfl, rfl⟩
      rcases i with _ | i
      · obtain rfl := Option.some.inj ho
        have yg : y 7 = some false := (hdep ⟨7, .guard⟩ (by simp) rfl).2 15 rfl
        exact .inr ⟨by show (y 7 == some true) = false; rw [yg]; rfl, rfl⟩
      rcases i with _ | i
      · obtain rfl := Option.some.inj ho
        have yg : y 7 = some false := (hdep ⟨7, .guard⟩ (by simp) rfl).2 15 rfl
        exact .inr ⟨by show (y 7 == some true) = false; rw [yg]; rfl, rfl⟩
      rcases i with _ | i
      · obtain rfl := Option.some.inj ho
        have e7 : ρ (.tmp 15) = .bool false := (hdep ⟨7, .data⟩ (by simp) rfl).1 15 rfl
        have e11 : ρ (.tmp 19) = undef := (hdep ⟨11, .data⟩ (by simp) rfl).1 19 rfl
        have ocn : ∀ v, ρ (.const v) = v := fun v => hout (.const v) rfl
        clear hdep hout
        refine .inl ⟨rfl, (Gives.val ?_ : Gives _ _ _ (.bool false) _)⟩
        go_simp
      rcases i with _ | i
      · obtain rfl := Option.some.inj ho
        have e12 : ρ (.tmp 20) = .bool false := (hdep ⟨12, .data⟩ (by simp) rfl).1 20 rfl
        clear hdep hout
        refine .inl ⟨rfl, (Gives.val ?_ : Gives _ _ _ (.bool false) _)⟩
        go_simp
      cases ho
    case fin =>
      intro x hBx
      go_wp2_with fail
      go_ret
      exact ⟨rfl, hB1.trans (hBx.mono hB1.size)⟩
  · skip
    refine wp_region_vals (by kernel_rfl) (by kernel_rfl) (by kernel_rfl) (by kernel_rfl) (fun j => [.iface 166 (.agg #[.int .i64 a, .int .i64 b, .int .i64 c]), .bool true, .bool true, .iface 166 (.agg #[.int .i64 a, .int .i64 b, .int .i64 c]), .agg #[.int .i64 p, .int .i64 q], .bool true, .bool true, .bool true, .agg #[.int .i64 6, .int .i64 a, .int .i64 b, .int .i64 c], .iface 166 (.agg #[.int .i64 a, .int .i64 b, .int .i64 c]), .string s, .bool r, .bool r, .bool r].getD j undef) w1 (Below.drew (Below.refl _ _)) ?step ⟨#[.agg #[.int .i64 6, .int .i64 a, .int .i64 b, .int .i64 c], .agg #[.int .i64 p, .int .i64 q], .pointer (some ⟨w.heap.size, 0, none⟩), .pointer (some ⟨w.heap.size + 1, 0, none⟩), .bool r, .iface 166 (.agg #[.int .i64 a, .int .i64 b, .int .i64 c]), .agg #[.int .i64 6, .int .i64 a, .int .i64 b, .int .i64 c], .iface 166 (.agg #[.int .i64 a, .int .i64 b, .int .i64 c]), .iface 166 (.agg #[.int .i64 a, .int .i64 b, .int .i64 c]), .bool true, .bool true, .iface 166 (.agg #[.int .i64 a, .int .i64 b, .int .i64 c]), .agg #[.int .i64 p, .int .i64 q], .bool true, .bool true, .bool true, .agg #[.int .i64 6, .int .i64 a, .int .i64 b, .int .i64 c], .iface 166 (.agg #[.int .i64 a, .int .i64 b, .int .i64 c]), .string s, .bool r, .bool r], []⟩ (by kernel_rfl) ?fin
    case step =>
      intro i o ho ρ y x hBx hdep hout
      rcases i with _ | i
      · obtain rfl := Option.some.inj ho
        have o5 : ρ (.tmp 5) = .iface 166 (.agg #[.int .i64 a, .int .i64 b, .int .i64 c]) := hout (.tmp 5) rfl
        clear hdep hout
        refine .inl ⟨rfl, (Gives.val ?_ : Gives _ _ _ (.iface 166 (.agg #[.int .i64 a, .int .i64 b, .int .i64 c])) _)⟩
        go_simp
      rcases i with _ | i
      · obtain rfl := Option.some.inj ho
        have e0 : ρ (.tmp 8) = .iface 166 (.agg #[.int .i64 a, .int .i64 b, .int .i64 c]) := (hdep ⟨0, .data⟩ (by simp) rfl).1 8 rfl
        have ocn : ∀ v, ρ (.const v) = v := fun v => hout (.const v) rfl
        clear hdep hout
        refine .inl ⟨rfl, (Gives.val ?_ : Gives _ _ _ (.bool true) _)⟩
        go_simp
      rcases i with _ | i
      · obtain rfl := Option.some.inj ho
        have e1 : ρ (.tmp 9) = .bool true := (hdep ⟨1, .data⟩ (by simp) rfl).1 9 rfl
        clear hdep hout
        refine .inl ⟨rfl, (Gives.val ?_ : Gives _ _ _ (.bool true) _)⟩
        go_simp
      rcases i with _ | i
      · obtain rfl := Option.some.inj ho
        have o5 : ρ (.tmp 5) = .iface 166 (.agg #[.int .i64 a, .int .i64 b, .int .i64 c]) := hout (.tmp 5) rfl
        have yg : y 2 = some true := (hdep ⟨2, .guard⟩ (by simp) rfl).2 10 rfl
        clear hdep hout
        refine .inl ⟨(by show (y 2 == some true) = true; rw [yg]; rfl), (Gives.val ?_ : Gives _ _ _ (.iface 166 (.agg #[.int .i64 a, .int .i64 b, .int .i64 c])) _)⟩
        go_simp
      rcases i with _ | i
      · obtain rfl := Option.some.inj ho
        have o3 : ρ (.tmp 3) = .pointer (some ⟨w.heap.size + 1, 0, none⟩) := hout (.tmp 3) rfl
        have yg : y 2 = some true := (hdep ⟨2, .guard⟩ (by simp) rfl).2 10 rfl
        clear hdep hout
        obtain ⟨n, c0, c1, c2, c3, d0, d1⟩ := KR.out.later hBx
        refine .inl ⟨(by show (y 2 == some true) = true; rw [yg]; rfl), (Gives.val ?_ : Gives _ _ _ (.agg #[.int .i64 p, .int .i64 q]) _)⟩
        go_simp
      rcases i with _ | i
      · obtain rfl := Option.some.inj ho
        have e3 : ρ (.tmp 11) = .iface 166 (.agg #[.int .i64 a, .int .i64 b, .int .i64 c]) := (hdep ⟨3, .data⟩ (by simp) rfl).1 11 rfl
        have e4 : ρ (.tmp 12) = .agg #[.int .i64 p, .int .i64 q] := (hdep ⟨4, .data⟩ (by simp) rfl).1 12 rfl
        have yg : y 2 = some true := (hdep ⟨2, .guard⟩ (by simp) rfl).2 10 rfl
        clear hdep hout
        refine .inl ⟨?_, ?_⟩
        · show (y 2 == some true) = true
          rw [yg]; rfl
        show Gives _ _ _ (.bool true) _
        refine Gives.call (HF.out x) ?_
        go_simp
        go_invoke
        go_simp
      rcases i with _ | i
      · obtain rfl := Option.some.inj ho
        have e2 : ρ (.tmp 10) = .bool true := (hdep ⟨2, .data⟩ (by simp) rfl).1 10 rfl
        have e5 : ρ (.tmp 13) = .bool true := (hdep ⟨5, .data⟩ (by simp) rfl).1 13 rfl
        have ocn : ∀ v, ρ (.const v) = v := fun v => hout (.const v) rfl
        clear hdep hout
        refine .inl ⟨rfl, (Gives.val ?_ : Gives _ _ _ (.bool true) _)⟩
        go_simp
      rcases i with _ | i
      · obtain rfl := Option.some.inj ho
        have e6 : ρ (.tmp 14) = .bool true := (hdep ⟨6, .data⟩ (by simp) rfl).1 14 rfl
        clear hdep hout
        refine .inl ⟨rfl, (Gives.val ?_ : Gives _ _ _ (.bool true) _)⟩
        go_simp
      rcases i with _ | i
      · obtain rfl := Option.some.inj ho
        have o2 : ρ (.tmp 2) = .pointer (some ⟨w.heap.size, 0, none⟩) := hout (.tmp 2) rfl
        have yg : y 7 = some true := (hdep ⟨7, .guard⟩ (by simp) rfl).2 15 rfl
        clear hdep hout
        obtain ⟨n, c0, c1, c2, c3, d0, d1⟩ := KR.out.later hBx
        refine .inl ⟨(by show (y 7 == some true) = true; rw [yg]; rfl), (Gives.val ?_ : Gives _ _ _ (.agg #[.int .i64 6, .int .i64 a, .int .i64 b, .int .i64 c]) _)⟩
        go_simp
      rcases i with _ | i
      · obtain rfl := Option.some.inj ho
        have o5 : ρ (.tmp 5) = .iface 166 (.agg #[.int .i64 a, .int .i64 b, .int .i64 c]) := hout (.tmp 5) rfl
        have yg : y 7 = some true := (hdep ⟨7, .guard⟩ (by simp) rfl).2 15 rfl
        clear hdep hout
        refine .inl ⟨(by show (y 7 == some true) = true; rw [yg]; rfl), (Gives.val ?_ : Gives _ _ _ (.iface 166 (.agg #[.int .i64 a, .int .i64 b, .int .i64 c])) _)⟩
        go_simp
      rcases i with _ | i
      · obtain rfl := Option.some.inj ho
        have e9 : ρ (.tmp 17) = .iface 166 (.agg #[.int .i64 a, .int .i64 b, .int .i64 c]) := (hdep ⟨9, .data⟩ (by simp) rfl).1 17 rfl
        have yg : y 7 = some true := (hdep ⟨7, .guard⟩ (by simp) rfl).2 15 rfl
        have ofn : ∀ f, ρ (.func f) = .func (.func f) #[] #[] := fun f => hout (.func f) rfl
        clear hdep hout
        refine .inl ⟨?_, ?_⟩
        · show (y 7 == some true) = true
          rw [yg]; rfl
        show Gives _ _ _ (.string s) _
        refine Gives.call (HL.out x) ?_
        go_simp
      rcases i with _ | i
      · obtain rfl := Option.some.inj ho
        have e8 : ρ (.tmp 16) = .agg #[.int .i64 6, .int .i64 a, .int .i64 b, .int .i64 c] := (hdep ⟨8, .data⟩ (by simp) rfl).1 16 rfl
        have e10 : ρ (.tmp 18) = .string s := (hdep ⟨10, .data⟩ (by simp) rfl).1 18 rfl
        have yg : y 7 = some true := (hdep ⟨7, .guard⟩ (by simp) rfl).2 15 rfl
        have ofn : ∀ f, ρ (.func f) = .func (.func f) #[] #[] := fun f => hout (.func f) rfl
        clear hdep hout
        refine .inl ⟨?_, ?_⟩
        · show (y 7 == some true) = true
          rw [yg]; rfl
        show Gives _ _ _ (.bool r) _
        refine Gives.call (HR.out x) ?_
        go_simp
      rcases i with _ | i
      · obtain rfl := Option.some.inj ho
        have e7 : ρ (.tmp 15) = .bool true := (hdep ⟨7, .data⟩ (by simp) rfl).1 15 rfl
        have e11 : ρ (.tmp 19) = .bool r := (hdep ⟨11, .data⟩ (by simp) rfl).1 19 rfl
        have ocn : ∀ v, ρ (.const v) = v := fun v => hout (.const v) rfl
        clear hdep hout
        refine .inl ⟨rfl, (Gives.val ?_ : Gives _ _ _ (.bool r) _)⟩
        go_simp
      rcases i with _ | i
      · obtain rfl := Option.some.inj ho
        have e12 : ρ (.tmp 20) = .bool r := (hdep ⟨12, .data⟩ (by simp) rfl).1 20 rfl
        clear hdep hout
        refine .inl ⟨rfl, (Gives.val ?_ : Gives _ _ _ (.bool r) _)⟩
        go_simp
      cases ho
    case fin =>
      intro x hBx
      go_wp2_with fail
      go_ret
      exact ⟨rfl, hB1.trans (hBx.mono hB1.size)⟩

set_option maxRecDepth 100000 in
set_option maxHeartbeats 4000000 in
theorem insOk_same (a b c p q : Int) (w : World) : Calls Tryz.prog 57 #[aggI (7, a, b, c), .agg #[.int .i64 p, .int .i64 q]] w fun e w' => e = .returned (.bool (((inI a 0 2 && inI b 0 2) && inI c 0 q) && restF (lettersF 7) a b c)) ∧ Below w.heap.size w w' := by
  have hl3 := letters_ok 7
  obtain ⟨s, hs⟩ : ∃ s, lettersF 7 = s := ⟨_, rfl⟩
  obtain ⟨f, hf⟩ : ∃ f, ((inI a 0 2 && inI b 0 2) && inI c 0 q) = f := ⟨_, rfl⟩
  obtain ⟨r, hr⟩ : ∃ r, restF s a b c = r := ⟨_, rfl⟩
  rw [hs] at hl3
  have HF : Hid (∀ x : World, Calls Tryz.prog 183 #[.agg #[.int .i64 a, .int .i64 b, .int .i64 c], .agg #[.int .i64 p, .int .i64 q]] x fun e w' => e = .returned (.bool f) ∧ Below x.heap.size x w') := fun x => by have := same_fits a b c p q x; rw [hf] at this; exact this
  have HL : Hid (∀ x : World, Calls Tryz.prog 81 #[.iface 167 (.agg #[.int .i64 a, .int .i64 b, .int .i64 c])] x fun e w' => e = .returned (.string s) ∧ Below x.heap.size x w') := fun x => by
    have := lettersOf_any (7, a, b, c) x (by simp) (by simp)
    simp only [ifcF] at this
    refine this.mono ?_
    rintro e w' ⟨rfl, rfl⟩
    exact ⟨by rw [hs], Below.refl _ _⟩
  have HR : Hid (∀ x : World, Calls Tryz.prog 80 #[.agg #[.int .i64 7, .int .i64 a, .int .i64 b, .int .i64 c], .string s] x fun e w' => e = .returned (.bool r) ∧ Below x.heap.size x w') := fun x => by
    have := restIsZero_any 7 a b c s x hl3.1 hl3.2.1 hl3.2.2
    rw [hr] at this
    exact this
  rw [hs, hf, hr]
  clear hs hf hr hl3
  have hA : Below w.heap.size w ((w.alloc (.cells #[.int .i64 7, .int .i64 a, .int .i64 b, .int .i64 c] 104)).alloc (.cells #[.int .i64 p, .int .i64 q] 107)) := by go_grown
  have hR := Rm.new w 7 a b c p q
  unfold aggI
  simp only
  go_enter Tryz.func57, Tryz.ntmps57
  go_wp2_with fail
  refine (instructionOf_any (7, a, b, c) _).mono ?_
  rintro e w1 ⟨rfl, hb1⟩
  have hB1 := hA.trans (hb1.mono (by simp; omega))
  have KR : Hid (Rm w1 w.heap.size 7 a b c p q) := hR.later hb1
  clear hA hR hb1
  simp only [ifcF]
  go_wp2_with fail
  cases f
  · skip
    refine wp_region_vals (by kernel_rfl) (by kernel_rfl) (by kernel_rfl) (by kernel_rfl) (fun j => [.iface 167 (.agg #[.int .i64 a, .int .i64 b, .int .i64 c]), .bool true, .bool true, .iface 167 (.agg #[.int .i64 a, .int .i64 b, .int .i64 c]), .agg #[.int .i64 p, .int .i64 q], .bool false, .bool false, .bool false, undef, undef, undef, undef, .bool false, .bool false].getD j undef) w1 (Below.drew (Below.refl _ _)) ?step ⟨#[.agg #[.int .i64 7, .int .i64 a, .int .i64 b, .int .i64 c], .agg #[.int .i64 p, .int .i64 q], .pointer (some ⟨w.heap.size, 0, none⟩), .pointer (some ⟨w.heap.size + 1, 0, none⟩), .bool false, .iface 167 (.agg #[.int .i64 a, .int .i64 b, .int .i64 c]), .agg #[.int .i64 7, .int .i64 a, .int .i64 b, .int .i64 c], .iface 167 (.agg #[.int .i64 a, .int .i64 b, .int .i64 c]), .iface 167 (.agg #[.int .i64 a, .int .i64 b, .int .i64 c]), .bool true, .bool true, .iface 167 (.agg #[.int .i64 a, .int .i64 b, .int .i64 c]), .agg #[.int .i64 p, .int .i64 q], .bool false, .bool false, .bool false, undef, undef, undef, undef, .bool false], []⟩ (by kernel_rfl) ?fin
    case step =>
      intro i o ho ρ y x hBx hdep hout
      rcases i with _ | i
      · obtain rfl := Option.some.inj ho
        have o5 : ρ (.tmp 5) = .iface 167 (.agg #[.int .i64 a, .int .i64 b, .int .i64 c]) := hout (.tmp 5) rfl
        clear hdep hout
        refine .inl ⟨rfl, (Gives.val ?_ : Gives _ _ _ (.iface 167 (.agg #[.int .i64 a, .int .i64 b, .int .i64 c])) _)⟩
        go_simp
      rcases i with _ | i
      · obtain rfl := Option.some.inj ho
        have e0 : ρ (.tmp 8) = .iface 167 (.agg #[.int .i64 a, .int .i64 b, .int .i64 c]) := (hdep ⟨0, .data⟩ (by simp) rfl).1 8 rfl
        have ocn : ∀ v, ρ (.const v) = v := fun v => hout (.const v) rfl
        clear hdep hout
        refine .inl ⟨rfl, (Gives.val ?_ : Gives _ _ _ (.bool true) _)⟩
        go_simp
      rcases i with _ | i
      · obtain rfl := Option.some.inj ho
        have e1 : ρ (.tmp 9) = .bool true := (hdep ⟨1, .data⟩ (by simp) rfl).1 9 rfl
        clear hdep hout
        refine .inl ⟨rfl, (Gives.val ?_ : Gives _ _ _ (.bool true) _)⟩
        go_simp
      rcases i with _ | i
      · obtain rfl := Option.some.inj ho
        have o5 : ρ (.tmp 5) = .iface 167 (.agg #[.int .i64 a, .int .i64 b, .int .i64 c]) := hout (.tmp 5) rfl
        have yg : y 2 = some true := (hdep ⟨2, .guard⟩ (by simp) rfl).2 10 rfl
        clear hdep hout
        refine .inl ⟨(by show (y 2 == some true) = true; rw [yg]; rfl), (Gives.val ?_ : Gives _ _ _ (.iface 167 (.agg #[.int .i64 a, .int .i64 b, .int .i64 c])) _)⟩
        go_simp
      rcases i with _ | i
      · obtain rfl := Option.some.inj ho
        have o3 : ρ (.tmp 3) = .pointer (some ⟨w.heap.size + 1, 0, none⟩) := hout (.tmp 3) rfl
        have yg : y 2 = some true := (hdep ⟨2, .guard⟩ (by simp) rfl).2 10 rfl
        clear hdep hout
        obtain ⟨n, c0, c1, c2, c3, d0, d1⟩ := KR.out.later hBx
        refine .inl ⟨(by show (y 2 == some true) = true; rw [yg]; rfl), (Gives.val ?_ : Gives _ _ _ (.agg #[.int .i64 p, .int .i64 q]) _)⟩
        go_simp
      rcases i with _ | i
      · obtain rfl := Option.some.inj ho
        have e3 : ρ (.tmp 11) = .iface 167 (.agg #[.int .i64 a, .int .i64 b, .int .i64 c]) := (hdep ⟨3, .data⟩ (by simp) rfl).1 11 rfl
        have e4 : ρ (.tmp 12) = .agg #[.int .i64 p, .int .i64 q] := (hdep ⟨4, .data⟩ (by simp) rfl).1 12 rfl
        have yg : y 2 = some true := (hdep ⟨2, .guard⟩ (by simp) rfl).2 10 rfl
        clear hdep hout
        refine .inl ⟨?_, ?_⟩
        · show (y 2 == some true) = true
          rw [yg]; rfl
        show Gives _ _ _ (.bool false) _
        refine Gives.call (HF.out x) ?_
        go_simp
        go_invoke
        go_simp
      rcases i with _ | i
      · obtain rfl := Option.some.inj ho
        have e2 : ρ (.tmp 10) = .bool true := (hdep ⟨2, .data⟩ (by simp) rfl).1 10 rfl
        have e5 : ρ (.tmp 13) = .bool false := (hdep ⟨5, .data⟩ (by simp) rfl).1 13 rfl
        have ocn : ∀ v, ρ (.const v) = v := fun v => hout (.const v) rfl
        clear hdep hout
        refine .inl ⟨rfl, (Gives.val ?_ : Gives _ _ _ (.bool false) _)⟩
        go_simp
      rcases i with _ | i
      · obtain rfl := Option.some.inj ho
        have e6 : ρ (.tmp 14) = .bool false := (hdep ⟨6, .data⟩ (by simp) rfl).1 14 rfl
        clear hdep hout
        refine .inl ⟨rfl, (Gives.val ?_ : Gives _ _ _ (.bool false) _)⟩
        go_simp
      rcases i with _ | i
      · obtain rfl := Option.some.inj ho
        have yg : y 7 = some false := (hdep ⟨7, .guard⟩ (by simp) rfl).2 15 rfl
        exact .inr ⟨by show (y 7 == some true) = false; rw [yg]; rfl, rfl⟩
      rcases i with _ | i
      · obtain rfl := Option.some.inj ho
        have yg : y 7 = some false := (hdep ⟨7, .guard⟩ (by simp) rfl).2 15 rfl
        exact .inr ⟨by show (y 7 == some true) = false; rw [yg]; rfl, rfl⟩
      rcases i with _ | i
      · obtain rfl := Option.some.inj ho
        have yg : y 7 = some false := (hdep ⟨7, .guard⟩ (by simp) rfl).2 15 rfl
        exact .inr ⟨by show (y 7 == some true) = false; rw [yg]; rfl, rfl⟩
      rcases i with _ | i
      · obtain rfl := Option.some.inj ho
        have yg : y 7 = some false := (hdep ⟨7, .guard⟩ (by simp) rfl).2 15 rfl
        exact .inr ⟨by show (y 7 == some true) = false; rw [yg]; rfl, rfl⟩
      rcases i with _ | i
      · obtain rfl := Option.some.inj ho
        have e7 : ρ (.tmp 15) = .bool false := (hdep ⟨7, .data⟩ (by simp) rfl).1 15 rfl
        have e11 : ρ (.tmp 19) = undef := (hdep ⟨11, .data⟩ (by simp) rfl).1 19 rfl
        have ocn : ∀ v, ρ (.const v) = v := fun v => hout (.const v) rfl
        clear hdep hout
        refine .inl ⟨rfl, (Gives.val ?_ : Gives _ _ _ (.bool false) _)⟩
        go_simp
      rcases i with _ | i
      · obtain rfl := Option.some.inj ho
        have e12 : ρ (.tmp 20) = .bool false := (hdep ⟨12, .data⟩ (by simp) rfl).1 20 rfl
        clear hdep hout
        refine .inl ⟨rfl, (Gives.val ?_ : Gives _ _ _ (.bool false) _)⟩
        go_simp
      cases ho
    case fin =>
      intro x hBx
      go_wp2_with fail
      go_ret
      exact ⟨rfl, hB1.trans (hBx.mono hB1.size)⟩
  · skip
    refine wp_region_vals (by kernel_rfl) (by kernel_rfl) (by kernel_rfl) (by kernel_rfl) (fun j => [.iface 167 (.agg #[.int .i64 a, .int .i64 b, .int .i64 c]), .bool true, .bool true, .iface 167 (.agg #[.int .i64 a, .int .i64 b, .int .i64 c]), .agg #[.int .i64 p, .int .i64 q], .bool true, .bool true, .bool true, .agg #[.int .i64 7, .int .i64 a, .int .i64 b, .int .i64 c], .iface 167 (.agg #[.int .i64 a, .int .i64 b, .int .i64 c]), .string s, .bool r, .bool r, .bool r].getD j undef) w1 (Below.drew (Below.refl _ _)) ?step ⟨#[.agg #[.int .i64 7, .int .i64 a, .int .i64 b, .int .i64 c], .agg #[.int .i64 p, .int .i64 q], .pointer (some ⟨w.heap.size, 0, none⟩), .pointer (some ⟨w.heap.size + 1, 0, none⟩), .bool r, .iface 167 (.agg #[.int .i64 a, .int .i64 b, .int .i64 c]), .agg #[.int .i64 7, .int .i64 a, .int .i64 b, .int .i64 c], .iface 167 (.agg #[.int .i64 a, .int .i64 b, .int .i64 c]), .iface 167 (.agg #[.int .i64 a, .int .i64 b, .int .i64 c]), .bool true, .bool true, .iface 167 (.agg #[.int .i64 a, .int .i64 b, .int .i64 c]), .agg #[.int .i64 p, .int .i64 q], .bool true, .bool true, .bool true, .agg #[.int .i64 7, .int .i64 a, .int .i64 b, .int .i64 c], .iface 167 (.agg #[.int .i64 a, .int .i64 b, .int .i64 c]), .string s, .bool r, .bool r], []⟩ (by kernel_rfl) ?fin
    case step =>
      intro i o ho ρ y x hBx hdep hout
      rcases i with _ | i
      · obtain rfl := Option.some.inj ho
        have o5 : ρ (.tmp 5) = .iface 167 (.agg #[.int .i64 a, .int .i64 b, .int .i64 c]) := hout (.tmp 5) rfl
        clear hdep hout
        refine .inl ⟨rfl, (Gives.val ?_ : Gives _ _ _ (.iface 167 (.agg #[.int .i64 a, .int .i64 b, .int .i64 c])) _)⟩
        go_simp
      rcases i with _ | i
      · obtain rfl := Option.some.inj ho
        have e0 : ρ (.tmp 8) = .iface 167 (.agg #[.int .i64 a, .int .i64 b, .int .i64 c]) := (hdep ⟨0, .data⟩ (by simp) rfl).1 8 rfl
        have ocn : ∀ v, ρ (.const v) = v := fun v => hout (.const v) rfl
        clear hdep hout
        refine .inl ⟨rfl, (Gives.val ?_ : Gives _ _ _ (.bool true) _)⟩
        go_simp
      rcases i with _ | i
      · obtain rfl := Option.some.inj ho
        have e1 : ρ (.tmp 9) = .bool true := (hdep ⟨1, .data⟩ (by simp) rfl).1 9 rfl
        clear hdep hout
        refine .inl ⟨rfl, (Gives.val ?_ : Gives _ _ _ (.bool true) _)⟩
        go_simp
      rcases i with _ | i
      · obtain rfl := Option.some.inj ho
        have o5 : ρ (.tmp 5) = .iface 167 (.agg #[.int .i64 a, .int .i64 b, .int .i64 c]) := hout (.tmp 5) rfl
        have yg : y 2 = some true := (hdep ⟨2, .guard⟩ (by simp) rfl).2 10 rfl
        clear hdep hout
        refine .inl ⟨(by show (y 2 == some true) = true; rw [yg]; rfl), (Gives.val ?_ : Gives _ _ _ (.iface 167 (.agg #[.int .i64 a, .int .i64 b, .int .i64 c])) _)⟩
        go_simp
      rcases i with _ | i
      · obtain rfl := Option.some.inj ho
        have o3 : ρ (.tmp 3) = .pointer (some ⟨w.heap.size + 1, 0, none⟩) := hout (.tmp 3) rfl
        have yg : y 2 = some true := (hdep ⟨2, .guard⟩ (by simp) rfl).2 10 rfl
        clear hdep hout
        obtain ⟨n, c0, c1, c2, c3, d0, d1⟩ := KR.out.later hBx
        refine .inl ⟨(by show (y 2 == some true) = true; rw [yg]; rfl), (Gives.val ?_ : Gives _ _ _ (.agg #[.int .i64 p, .int .i64 q]) _)⟩
        go_simp
      rcases i with _ | i
      · obtain rfl := Option.some.inj ho
        have e3 : ρ (.tmp 11) = .iface 167 (.agg #[.int .i64 a, .int .i64 b, .int .i64 c]) := (hdep ⟨3, .data⟩ (by simp) rfl).1 11 rfl
        have e4 : ρ (.tmp 12) = .agg #[.int .i64 p, .int .i64 q] := (hdep ⟨4, .data⟩ (by simp) rfl).1 12 rfl
        have yg : y 2 = some true := (hdep ⟨2, .guard⟩ (by simp) rfl).2 10 rfl
        clear hdep hout
        refine .inl ⟨?_, ?_⟩
        · show (y 2 == some true) = true
          rw [yg]; rfl
        show Gives _ _ _ (.bool true) _
        refine Gives.call (HF.out x) ?_
        go_simp
        go_invoke
        go_simp
      rcases i with _ | i
      · obtain rfl := Option.some.inj ho
        have e2 : ρ (.tmp 10) = .bool true := (hdep ⟨2, .data⟩ (by simp) rfl).1 10 rfl
        have e5 : ρ (.tmp 13) = .bool true := (hdep ⟨5, .data⟩ (by simp) rfl).1 13 rfl
        have ocn : ∀ v, ρ (.const v) = v := fun v => hout (.const v) rfl
        clear hdep hout
        refine .inl ⟨rfl, (Gives.val ?_ : Gives _ _ _ (.bool true) _)⟩
        go_simp
      rcases i with _ | i
      · obtain rfl := Option.some.inj ho
        have e6 : ρ (.tmp 14) = .bool true := (hdep ⟨6, .data⟩ (by simp) rfl).1 14 rfl
        clear hdep hout
        refine .inl ⟨rfl, (Gives.val ?_ : Gives _ _ _ (.bool true) _)⟩
        go_simp
      rcases i with _ | i
      · obtain rfl := Option.some.inj ho
        have o2 : ρ (.tmp 2) = .pointer (some ⟨w.heap.size, 0, none⟩) := hout (.tmp 2) rfl
        have yg : y 7 = some true := (hdep ⟨7, .guard⟩ (by simp) rfl).2 15 rfl
        clear hdep hout
        obtain ⟨n, c0, c1, c2, c3, d0, d1⟩ := KR.out.later hBx
        refine .inl ⟨(by show (y 7 == some true) = true; rw [yg]; rfl), (Gives.val ?_ : Gives _ _ _ (.agg #[.int .i64 7, .int .i64 a, .int .i64 b, .int .i64 c]) _)⟩
        go_simp
      rcases i with _ | i
      · obtain rfl := Option.some.inj ho
        have o5 : ρ (.tmp 5) = .iface 167 (.agg #[.int .i64 a, .int .i64 b, .int .i64 c]) := hout (.tmp 5) rfl
        have yg : y 7 = some true := (hdep ⟨7, .guard⟩ (by simp) rfl).2 15 rfl
        clear hdep hout
        refine .inl ⟨(by show (y 7 == some true) = true; rw [yg]; rfl), (Gives.val ?_ : Gives _ _ _ (.iface 167 (.agg #[.int .i64 a, .int .i64 b, .int .i64 c])) _)⟩
        go_simp
      rcases i with _ | i
      · obtain rfl := Option.some.inj ho
        have e9 : ρ (.tmp 17) = .iface 167 (.agg #[.int .i64 a, .int .i64 b, .int .i64 c]) := (hdep ⟨9, .data⟩ (by simp) rfl).1 17 rfl
        have yg : y 7 = some true := (hdep ⟨7, .guard⟩ (by simp) rfl).2 15 rfl
        have ofn : ∀ f, ρ (.func f) = .func (.func f) #[] #[] := fun f => hout (.func f) rfl
        clear hdep hout
        refine .inl ⟨?_, ?_⟩
        · show (y 7 == some true) = true
          rw [yg]; rfl
        show Gives _ _ _ (.string s) _
        refine Gives.call (HL.out x) ?_
        go_simp
      rcases i with _ | i
      · obtain rfl := Option.some.inj ho
        have e8 : ρ (.tmp 16) = .agg #[.int .i64 7, .int .i64 a, .int .i64 b, .int .i64 c] := (hdep ⟨8, .data⟩ (by simp) rfl).1 16 rfl
        have e10 : ρ (.tmp 18) = .string s := (hdep ⟨10, .data⟩ (by simp) rfl).1 18 rfl
        have yg : y 7 = some true := (hdep ⟨7, .guard⟩ (by simp) rfl).2 15 rfl
        have ofn : ∀ f, ρ (.func f) = .func (.func f) #[] #[] := fun f => hout (.func f) rfl
        clear hdep hout
        refine .inl ⟨?_, ?_⟩
        · show (y 7 == some true) = true
          rw [yg]; rfl
        show Gives _ _ _ (.bool r) _
        refine Gives.call (HR.out x) ?_
        go_simp
      rcases i with _ | i
      · obtain rfl := Option.some.inj ho
        have e7 : ρ (.tmp 15) = .bool true := (hdep ⟨7, .data⟩ (by simp) rfl).1 15 rfl
        have e11 : ρ (.tmp 19) = .bool r := (hdep ⟨11, .data⟩ (by simp) rfl).1 19 rfl
        have ocn : ∀ v, ρ (.const v) = v := fun v => hout (.const v) rfl
        clear hdep hout
        refine .inl ⟨rfl, (Gives.val ?_ : Gives _ _ _ (.bool r) _)⟩
        go_simp
      rcases i with _ | i
      · obtain rfl := Option.some.inj ho
        have e12 : ρ (.tmp 20) = .bool r := (hdep ⟨12, .data⟩ (by simp) rfl).1 20 rfl
        clear hdep hout
        refine .inl ⟨rfl, (Gives.val ?_ : Gives _ _ _ (.bool r) _)⟩
        go_simp
      cases ho
    case fin =>
      intro x hBx
      go_wp2_with fail
      go_ret
      exact ⟨rfl, hB1.trans (hBx.mono hB1.size)⟩

set_option maxRecDepth 100000 in
set_option maxHeartbeats 4000000 in
theorem insOk_call (a b c p q : Int) (w : World) : Calls Tryz.prog 57 #[aggI (8, a, b, c), .agg #[.int .i64 p, .int .i64 q]] w fun e w' => e = .returned (.bool (((inI a 0 2 && inI c 0 2) && inI b 0 (p - 1)) && restF (lettersF 8) a b c)) ∧ Below w.heap.size w w' := by
  have hl3 := letters_ok 8
  obtain ⟨s, hs⟩ : ∃ s, lettersF 8 = s := ⟨_, rfl⟩
  obtain ⟨f, hf⟩ : ∃ f, ((inI a 0 2 && inI c 0 2) && inI b 0 (p - 1)) = f := ⟨_, rfl⟩
  obtain ⟨r, hr⟩ : ∃ r, restF s a b c = r := ⟨_, rfl⟩
  rw [hs] at hl3
  have HF : Hid (∀ x : World, Calls Tryz.prog 185 #[.agg #[.int .i64 a, .int .i64 b, .int .i64 c], .agg #[.int .i64 p, .int .i64 q]] x fun e w' => e = .returned (.bool f) ∧ Below x.heap.size x w') := fun x => by have := call_fits a b c p q x; rw [hf] at this; exact this
  have HL : Hid (∀ x : World, Calls Tryz.prog 81 #[.iface 169 (.agg #[.int .i64 a, .int .i64 b, .int .i64 c])] x fun e w' => e = .returned (.string s) ∧ Below x.heap.size x w') := fun x => by
    have := lettersOf_any (8, a, b, c) x (by simp) (by simp)
    simp only [ifcF] at this
    refine this.mono ?_
    rintro e w' ⟨rfl, rfl⟩
    exact ⟨by rw [hs], Below.refl _ _⟩
  have HR : Hid (∀ x : World, Calls Tryz.prog 80 #[.agg #[.int .i64 8, .int .i64 a, .int .i64 b, .int .i64 c], .string s] x fun e w' => e = .returned (.bool r) ∧ Below x.heap.size x w') := fun x => by
    have := restIsZero_any 8 a b c s x hl3.1 hl3.2.1 hl3.2.2
    rw [hr] at this
    exact this
  rw [hs, hf, hr]
  clear hs hf hr hl3
  have hA : Below w.heap.size w ((w.alloc (.cells #[.int .i64 8, .int .i64 a, .int .i64 b, .int .i64 c] 104)).alloc (.cells #[.int .i64 p, .int .i64 q] 107)) := by go_grown
  have hR := Rm.new w 8 a b c p q
  unfold aggI
  simp only
  go_enter Tryz.func57, Tryz.ntmps57
  go_wp2_with fail
  refine (instructionOf_any (8, a, b, c) _).mono ?_
  rintro e w1 ⟨rfl, hb1⟩
  have hB1 := hA.trans (hb1.mono (by simp; omega))
  have KR : Hid (Rm w1 w.heap.size 8 a b c p q) := hR.later hb1
  clear hA hR hb1
  simp only [ifcF]
  go_wp2_with fail
  cases f
  · skip
    refine wp_region_vals (by kernel_rfl) (by kernel_rfl) (by kernel_rfl) (by kernel_rfl) (fun j => [.iface 169 (.agg #[.int .i64 a, .int .i64 b, .int .i64 c]), .bool true, .bool true, .iface 169 (.agg #[.int .i64 a, .int .i64 b, .int .i64 c]), .agg #[.int .i64 p, .int .i64 q], .bool false, .bool false, .bool false, undef, undef, undef, undef, .bool false, .bool false].getD j undef) w1 (Below.drew (Below.refl _ _)) ?step ⟨#[.agg #[.int .i64 8, .int .i64 a, .int .i64 b, .int .i64 c], .agg #[.int .i64 p, .int .i64 q], .pointer (some ⟨w.heap.size, 0, none⟩), .pointer (some ⟨w.heap.size + 1, 0, none⟩), .bool false, .iface 169 (.agg #[.int .i64 a, .int .i64 b, .int .i64 c]), .agg #[.int .i64 8, .int .i64 a, .int .i64 b, .int .i64 c], .iface 169 (.agg #[.int .i64 a, .int .i64 b, .int .i64 c]), .iface 169 (.agg #[.int .i64 a, .int .i64 b, .int .i64 c]), .bool true, .bool true, .iface 169 (.agg #[.int .i64 a, .int .i64 b, .int .i64 c]), .agg #[.int .i64 p, .int .i64 q], .bool false, .bool false, .bool false, undef, undef, undef, undef, .bool false], []⟩ (by kernel_rfl) ?fin
    case step =>
      intro i o ho ρ y x hBx hdep hout
      rcases i with _ | i
      · obtain rfl := Option.some.inj ho
        have o5 : ρ (.tmp 5) = .iface 169 (.agg #[.int .i64 a, .int .i64 b, .int .i64 c]) := hout (.tmp 5) rfl
        clear hdep hout
        refine .inl ⟨rfl, (Gives.val ?_ : Gives _ _ _ (.iface 169 (.agg #[.int .i64 a, .int .i64 b, .int .i64 c])) _)⟩
        go_simp
      rcases i with _ | i
      · obtain rfl := Option.some.inj ho
        have e0 : ρ (.tmp 8) = .iface 169 (.agg #[.int .i64 a, .int .i64 b, .int .i64 c]) := (hdep ⟨0, .data⟩ (by simp) rfl).1 8 rfl
        have ocn : ∀ v, ρ (.const v) = v := fun v => hout (.const v) rfl
        clear hdep hout
        refine .inl ⟨rfl, (Gives.val ?_ : Gives _ _ _ (.bool true) _)⟩
        go_simp
      rcases i with _ | i
      · obtain rfl := Option.some.inj ho
        have e1 : ρ (.tmp 9) = .bool true := (hdep ⟨1, .data⟩ (by simp) rfl).1 9 rfl
        clear hdep hout
        refine .inl ⟨rfl, (Gives.val ?_ : Gives _ _ _ (.bool true) _)⟩
        go_simp
      rcases i with _ | i
      · obtain rfl := Option.some.inj ho
        have o5 : ρ (.tmp 5) = .iface 169 (.agg #[.int .i64 a, .int .i64 b, .int .i64 c]) := hout (.tmp 5) rfl
        have yg : y 2 = some true := (hdep ⟨2, .guard⟩ (by simp) rfl).2 10 rfl
        clear hdep hout
        refine .inl ⟨(by show (y 2 == some true) = true; rw [yg]; rfl), (Gives.val ?_ : Gives _ _ _ (.iface 169 (.agg #[.int .i64 a, .int .i64 b, .int .i64 c])) _)⟩
        go_simp
      rcases i with _ | i
      · obtain rfl := Option.some.inj ho
        have o3 : ρ (.tmp 3) = .pointer (some ⟨w.heap.size + 1, 0, none⟩) := hout (.tmp 3) rfl
        have yg : y 2 = some true := (hdep ⟨2, .guard⟩ (by simp) rfl).2 10 rfl
        clear hdep hout
        obtain ⟨n, c0, c1, c2, c3, d0, d1⟩ := KR.out.later hBx
        refine .inl ⟨(by show (y 2 == some true) = true; rw [yg]; rfl), (Gives.val ?_ : Gives _ _ _ (.agg #[.int .i64 p, .int .i64 q]) _)⟩
        go_simp
      rcases i with _ | i
      · obtain rfl := Option.some.inj ho
        have e3 : ρ (.tmp 11) = .iface 169 (.agg #[.int .i64 a, .int .i64 b, .int .i64 c]) := (hdep ⟨3, .data⟩ (by simp) rfl).1 11 rfl
        have e4 : ρ (.tmp 12) = .agg #[.int .i64 p, .int .i64 q] := (hdep ⟨4, .data⟩ (by simp) rfl).1 12 rfl
        have yg : y 2 = some true := (hdep ⟨2, .guard⟩ (by simp) rfl).2 10 rfl
        clear hdep hout
        refine .inl ⟨?_, ?_⟩
        · show (y 2 == some true) = true
          rw [yg]; rfl
        show Gives _ _ _ (.bool false) _
        refine Gives.call (HF.out x) ?_
        go_simp
        go_invoke
        go_simp
      rcases i with _ | i
      · obtain rfl := Option.some.inj ho
        have e2 : ρ (.tmp 10) = .bool true := (hdep ⟨2, .data⟩ (by simp) rfl).1 10 rfl
        have e5 : ρ (.tmp 13) = .bool false := (hdep ⟨5, .data⟩ (by simp) rfl).1 13 rfl
        have ocn : ∀ v, ρ (.const v) = v := fun v => hout (.const v) rfl
        clear hdep hout
        refine .inl ⟨rfl, (Gives.val ?_ : Gives _ _ _ (.bool false) _)⟩
        go_simp
      rcases i with _ | i
      · obtain rfl := Option.some.inj ho
        have e6 : ρ (.tmp 14) = .bool false := (hdep ⟨6, .data⟩ (by simp) rfl).1 14 rfl
        clear hdep hout
        refine .inl ⟨rfl, (Gives.val ?_ : Gives _ _ _ (.bool false) _)⟩
        go_simp
      rcases i with _ | i
      · obtain rfl := Option.some.inj ho
        have yg : y 7 = some false := (hdep ⟨7, .guard⟩ (by simp) rfl).2 15 rfl
        exact .inr ⟨by show (y 7 == some true) = false; rw [yg]; rfl, rfl⟩
      rcases i with _ | i
      · obtain rfl := Option.some.inj ho
        have yg : y 7 = some false := (hdep ⟨7, .guard⟩ (by simp) rfl).2 15 rfl
        exact .inr ⟨by show (y 7 == some true) = false; rw [yg]; rfl, rfl⟩
      rcases i with _ | i
      · obtain rfl := Option.some.inj ho
        have yg : y 7 = some false := (hdep ⟨7, .guard⟩ (by simp) rfl).2 15 rfl
        exact .inr ⟨by show (y 7 == some true) = false; rw [yg]; rfl, rfl⟩
      rcases i with _ | i
      · obtain rfl := Option.some.inj ho
        have yg : y 7 = some false := (hdep ⟨7, .guard⟩ (by simp) rfl).2 15 rfl
        exact .inr ⟨by show (y 7 == some true) = false; rw [yg]; rfl, rfl⟩
      rcases i with _ | i
      · obtain rfl := Option.some.inj ho
        have e7 : ρ (.tmp 15) = .bool false := (hdep ⟨7, .data⟩ (by simp) rfl).1 15 rfl
        have e11 : ρ (.tmp 19) = undef := (hdep ⟨11, .data⟩ (by simp) rfl).1 19 rfl
        have ocn : ∀ v, ρ (.const v) = v := fun v => hout (.const v) rfl
        clear hdep hout
        refine .inl ⟨rfl, (Gives.val ?_ : Gives _ _ _ (.bool false) _)⟩
        go_simp
      rcases i with _ | i
      · obtain rfl := Option.some.inj ho
        have e12 : ρ (.tmp 20) = .bool false := (hdep ⟨12, .data⟩ (by simp) rfl).1 20 rfl
        clear hdep hout
        refine .inl ⟨rfl, (Gives.val ?_ : Gives _ _ _ (.bool false) _)⟩
        go_simp
      cases ho
    case fin =>
      intro x hBx
      go_wp2_with fail
      go_ret
      exact ⟨rfl, hB1.trans (hBx.mono hB1.size)⟩
  · skip
    refine wp_region_vals (by kernel_rfl) (by kernel_rfl) (by kernel_rfl) (by kernel_rfl) (fun j => [.iface 169 (.agg #[.int .i64 a, .int .i64 b, .int .i64 c]), .bool true, .bool true, .iface 169 (.agg #[.int .i64 a, .int .i64 b, .int .i64 c]), .agg #[.int .i64 p, .int .i64 q], .bool true, .bool true, .bool true, .agg #[.int .i64 8, .int .i64 a, .int .i64 b, .int .i64 c], .iface 169 (.agg #[.int .i64 a, .int .i64 b, .int .i64 c]), .string s, .bool r, .bool r, .bool r].getD j undef) w1 (Below.drew (Below.refl _ _)) ?step ⟨#[.agg #[.int .i64 8, .int .i64 a, .int .i64 b, .int .i64 c], .agg #[.int .i64 p, .int .i64 q], .pointer (some ⟨w.heap.size, 0, none⟩), .pointer (some ⟨w.heap.size + 1, 0, none⟩), .bool r, .iface 169 (.agg #[.int .i64 a, .int .i64 b, .int .i64 c]), .agg #[.int .i64 8, .int .i64 a, .int .i64 b, .int .i64 c], .iface 169 (.agg #[.int .i64 a, .int .i64 b, .int .i64 c]), .iface 169 (.agg #[.int .i64 a, .int .i64 b, .int .i64 c]), .bool true, .bool true, .iface 169 (.agg #[.int .i64 a, .int .i64 b, .int .i64 c]), .agg #[.int .i64 p, .int .i64 q], .bool true, .bool true, .bool true, .agg #[.int .i64 8, .int .i64 a, .int .i64 b, .int .i64 c], .iface 169 (.agg #[.int .i64 a, .int .i64 b, .int .i64 c]), .string s, .bool r, .bool r], []⟩ (by kernel_rfl) ?fin
    case step =>
      intro i o ho ρ y x hBx hdep hout
      rcases i with _ | i
      · obtain rfl := Option.some.inj ho
        have o5 : ρ (.tmp 5) = .iface 169 (.agg #[.int .i64 a, .int .i64 b, .int .i64 c]) := hout (.tmp 5) rfl
        clear hdep hout
        refine .inl ⟨rfl, (Gives.val ?_ : Gives _ _ _ (.iface 169 (.agg #[.int .i64 a, .int .i64 b, .int .i64 c])) _)⟩
        go_simp
      rcases i with _ | i
      · obtain rfl := Option.some.inj ho
        have e0 : ρ (.tmp 8) = .iface 169 (.agg #[.int .i64 a, .int .i64 b, .int .i64 c]) := (hdep ⟨0, .data⟩ (by simp) rfl).1 8 rfl
        have ocn : ∀ v, ρ (.const v) = v := fun v => hout (.const v) rfl
        clear hdep hout
        refine .inl ⟨rfl, (Gives.val ?_ : Gives _ _ _ (.bool true) _)⟩
        go_simp
      rcases i with _ | i
      · obtain rfl := Option.some.inj ho
        have e1 : ρ (.tmp 9) = .bool true := (hdep ⟨1, .data⟩ (by simp) rfl).1 9 rfl
        clear hdep hout
        refine .inl ⟨rfl, (Gives.val ?_ : Gives _ _ _ (.bool true) _)⟩
        go_simp
      rcases i with _ | i
      · obtain rfl := Option.some.inj ho
        have o5 : ρ (.tmp 5) = .iface 169 (.agg #[.int .i64 a, .int .i64 b, .int .i64 c]) := hout (.tmp 5) rfl
        have yg : y 2 = some true := (hdep ⟨2, .guard⟩ (by simp) rfl).2 10 rfl
        clear hdep hout
        refine .inl ⟨(by show (y 2 == some true) = true; rw [yg]; rfl), (Gives.val ?_ : Gives _ _ _ (.iface 169 (.agg #[.int .i64 a, .int .i64 b, .int .i64 c])) _)⟩
        go_simp
      rcases i with _ | i
      · obtain rfl := Option.some.inj ho
        have o3 : ρ (.tmp 3) = .pointer (some ⟨w.heap.size + 1, 0, none⟩) := hout (.tmp 3) rfl
        have yg : y 2 = some true := (hdep ⟨2, .guard⟩ (by simp) rfl).2 10 rfl
        clear hdep hout
        obtain ⟨n, c0, c1, c2, c3, d0, d1⟩ := KR.out.later hBx
        refine .inl ⟨(by show (y 2 == some true) = true; rw [yg]; rfl), (Gives.val ?_ : Gives _ _ _ (.agg #[.int .i64 p, .int .i64 q]) _)⟩
        go_simp
      rcases i with _ | i
      · obtain rfl := Option.some.inj ho
        have e3 : ρ (.tmp 11) = .iface 169 (.agg #[.int .i64 a, .int .i64 b, .int .i64 c]) := (hdep ⟨3, .data⟩ (by simp) rfl).1 11 rfl
        have e4 : ρ (.tmp 12) = .agg #[.int .i64 p, .int .i64 q] := (hdep ⟨4, .data⟩ (by simp) rfl).1 12 rfl
        have yg : y 2 = some true := (hdep ⟨2, .guard⟩ (by simp) rfl).2 10 rfl
        clear hdep hout
        refine .inl ⟨?_, ?_⟩
        · show (y 2 == some true) = true
          rw [yg]; rfl
        show Gives _ _ _ (.bool true) _
        refine Gives.call (HF.out x) ?_
        go_simp
        go_invoke
        go_simp
      rcases i with _ | i
      · obtain rfl := Option.some.inj ho
        have e2 : ρ (.tmp 10) = .bool true := (hdep ⟨2, .data⟩ (by simp) rfl).1 10 rfl
        have e5 : ρ (.tmp 13) = .bool true := (hdep ⟨5, .data⟩ (by simp) rfl).1 13 rfl
        have ocn : ∀ v, ρ (.const v) = v := fun v => hout (.const v) rfl
        clear hdep hout
        refine .inl ⟨rfl, (Gives.val ?_ : Gives _ _ _ (.bool true) _)⟩
        go_simp
      rcases i with _ | i
      · obtain rfl := Option.some.inj ho
        have e6 : ρ (.tmp 14) = .bool true := (hdep ⟨6, .data⟩ (by simp) rfl).1 14 rfl
        clear hdep hout
        refine .inl ⟨rfl, (Gives.val ?_ : Gives _ _ _ (.bool true) _)⟩
        go_simp
      rcases i with _ | i
      · obtain rfl := Option.some.inj ho
        have o2 : ρ (.tmp 2) = .pointer (some ⟨w.heap.size, 0, none⟩) := hout (.tmp 2) rfl
        have yg : y 7 = some true := (hdep ⟨7, .guard⟩ (by simp) rfl).2 15 rfl
        clear hdep hout
        obtain ⟨n, c0, c1, c2, c3, d0, d1⟩ := KR.out.later hBx
        refine .inl ⟨(by show (y 7 == some true) = true; rw [yg]; rfl), (Gives.val ?_ : Gives _ _ _ (.agg #[.int .i64 8, .int .i64 a, .int .i64 b, .int .i64 c]) _)⟩
        go_simp
      rcases i with _ | i
      · obtain rfl := Option.some.inj ho
        have o5 : ρ (.tmp 5) = .iface 169 (.agg #[.int .i64 a, .int .i64 b, .int .i64 c]) := hout (.tmp 5) rfl
        have yg : y 7 = some true := (hdep ⟨7, .guard⟩ (by simp) rfl).2 15 rfl
        clear hdep hout
        refine .inl ⟨(by show (y 7 == some true) = true; rw [yg]; rfl), (Gives.val ?_ : Gives _ _ _ (.iface 169 (.agg #[.int .i64 a, .int .i64 b, .int .i64 c])) _)⟩
        go_simp
      rcases i with _ | i
      · obtain rfl := Option.some.inj ho
        have e9 : ρ (.tmp 17) = .iface 169 (.agg #[.int .i64 a, .int .i64 b, .int .i64 c]) := (hdep ⟨9, .data⟩ (by simp) rfl).1 17 rfl
        have yg : y 7 = some true := (hdep ⟨7, .guard⟩ (by simp) rfl).2 15 rfl
        have ofn : ∀ f, ρ (.func f) = .func (.func f) #[] #[] := fun f => hout (.func f) rfl
        clear hdep hout
        refine .inl ⟨?_, ?_⟩
        · show (y 7 == some true) = true
          rw [yg]; rfl
        show Gives _ _ _ (.string s) _
        refine Gives.call (HL.out x) ?_
        go_simp
      rcases i with _ | i
      · obtain rfl := Option.some.inj ho
        have e8 : ρ (.tmp 16) = .agg #[.int .i64 8, .int .i64 a, .int .i64 b, .int .i64 c] := (hdep ⟨8, .data⟩ (by simp) rfl).1 16 rfl
        have e10 : ρ (.tmp 18) = .string s := (hdep ⟨10, .data⟩ (by simp) rfl).1 18 rfl
        have yg : y 7 = some true := (hdep ⟨7, .guard⟩ (by simp) rfl).2 15 rfl
        have ofn : ∀ f, ρ (.func f) = .func (.func f) #[] #[] := fun f => hout (.func f) rfl
        clear hdep hout
        refine .inl ⟨?_, ?_⟩
        · show (y 7 == some true) = true
          rw [yg]; rfl
        show Gives _ _ _ (.bool r) _
        refine Gives.call (HR.out x) ?_
        go_simp
      rcases i with _ | i
      · obtain rfl := Option.some.inj ho
        have e7 : ρ (.tmp 15) = .bool true := (hdep ⟨7, .data⟩ (by simp) rfl).1 15 rfl
        have e11 : ρ (.tmp 19) = .bool r := (hdep ⟨11, .data⟩ (by simp) rfl).1 19 rfl
        have ocn : ∀ v, ρ (.const v) = v := fun v => hout (.const v) rfl
        clear hdep hout
        refine .inl ⟨rfl, (Gives.val ?_ : Gives _ _ _ (.bool r) _)⟩
        go_simp
      rcases i with _ | i
      · obtain rfl := Option.some.inj ho
        have e12 : ρ (.tmp 20) = .bool r := (hdep ⟨12, .data⟩ (by simp) rfl).1 20 rfl
        clear hdep hout
        refine .inl ⟨rfl, (Gives.val ?_ : Gives _ _ _ (.bool r) _)⟩
        go_simp
      cases ho
    case fin =>
      intro x hBx
      go_wp2_with fail
      go_ret
      exact ⟨rfl, hB1.trans (hBx.mono hB1.size)⟩
end Go.Proofs.YtlkebkajdlgebaaGreat
