/-
  The contract of the model's l12Wrong.
-/
import Derived.Test.YtpogahhfdneagaaFMay
namespace Go.Proofs.Ytpogahhfdneagaa
open Go.RowKit
set_option linter.unusedVariables false
set_option linter.unusedSimpArgs false

set_option maxRecDepth 100000 in
set_option maxHeartbeats 8000000 in
theorem l12Wrong_any (x0 : World) (I : I4) (h1 : 1 ≤ I.1) (h2 : I.1 ≤ 12) (hr : regsOk I) (a c : Bool) (l u : Int) (g o cap : Nat) (L : List Sp) (hq : Rg3 x0 g o L) :
    Calls Try.prog 89 #[aggI I, .agg #[.bool a, .slice (some ⟨g, o, none⟩) 3 cap, .bool c, .int .i64 l, .int .i64 u]] x0 fun e y => e = .returned (.bool (mayF I L)) ∧ Below x0.heap.size x0 y := by
  obtain ⟨K, A, B, C⟩ := I
  simp only at h1 h2
  obtain ⟨r4, r10, r11, r12⟩ := hr
  simp only at r4 r10 r11 r12
  have hg := hq.1
  have HQ : Hid (Rg3 x0 g o L) := hq
  clear hq
  have hg1 : g < x0.heap.size + 1 := by omega
  unfold aggI
  simp only
  by_cases hk : K = 4 ∨ K = 10 ∨ K = 11 ∨ K = 12
  · rcases hk with rfl | rfl | rfl | rfl
    · obtain ⟨hr0, hr2⟩ := r4 rfl
      obtain ⟨r, rfl⟩ : ∃ r : Nat, B = r := ⟨B.toNat, by omega⟩
      have hri : (r : Int) < 3 := by omega
      have hsp := HQ.out.2 r (by omega)
      have HF : Hid (mayF (4, A, (r : Int), C) L = (decide (C = 4) && hasF (L.getD r noSp).1 (L.getD r noSp).2.1 (L.getD r noSp).2.2 0)) := by show mayF _ _ = _; simp [mayF]
      generalize L.getD r noSp = S at hsp HF
      obtain ⟨s1, s2, s3⟩ := S
      obtain ⟨q0, q1, q2⟩ := hsp
      simp only at q0 q1 q2 HF
      clear HQ r4 r10 r11 r12 h1 h2 hr0 hr2
      by_cases hc : C = 4
      · subst hc
        go_enter Try.func89, Try.ntmps89
        go_wp2_with fail
        refine (has_spec s1 s2 s3 0 _).mono ?_
        rintro e y ⟨rfl, hb⟩
        have hB : Below x0.heap.size x0 y := (((Below.refl _ _).alloc (Nat.le_refl _) _).alloc (by simp) _).trans (hb.mono (by simp; omega))
        go_wp2_with fail
        go_ret
        exact ⟨by rw [HF.out]; simp, hB⟩
      · have hc' : (C == 4) = false := by simpa using hc
        go_enter Try.func89, Try.ntmps89
        go_wp2_with fail
        go_ret
        exact ⟨by rw [HF.out]; simp [hc], by go_grown⟩
    · obtain ⟨hr0, hr2⟩ := r10 rfl
      obtain ⟨r, rfl⟩ : ∃ r : Nat, A = r := ⟨A.toNat, by omega⟩
      have hri : (r : Int) < 3 := by omega
      have hsp := HQ.out.2 r (by omega)
      have HF : Hid (mayF (10, (r : Int), B, C) L = (hasF (L.getD r noSp).1 (L.getD r noSp).2.1 (L.getD r noSp).2.2 0)) := by show mayF _ _ = _; simp [mayF]
      generalize L.getD r noSp = S at hsp HF
      obtain ⟨s1, s2, s3⟩ := S
      obtain ⟨q0, q1, q2⟩ := hsp
      simp only at q0 q1 q2 HF
      clear HQ r4 r10 r11 r12 h1 h2 hr0 hr2
      go_enter Try.func89, Try.ntmps89
      go_wp2_with fail
      refine (has_spec s1 s2 s3 0 _).mono ?_
      rintro e y ⟨rfl, hb⟩
      have hB : Below x0.heap.size x0 y := (((Below.refl _ _).alloc (Nat.le_refl _) _).alloc (by simp) _).trans (hb.mono (by simp; omega))
      go_wp2_with fail
      go_ret
      exact ⟨retBool HF.out.symm, hB⟩
    · obtain ⟨hr0, hr2⟩ := r11 rfl
      obtain ⟨r, rfl⟩ : ∃ r : Nat, A = r := ⟨A.toNat, by omega⟩
      have hri : (r : Int) < 3 := by omega
      have hr3 : r < 3 := by omega
      obtain ⟨s1, s2, s3, hSe⟩ : ∃ s1 s2 s3, L.getD r noSp = (s1, s2, s3) := ⟨_, _, _, rfl⟩
      obtain ⟨f, hf⟩ : ∃ f, inF s1 s2 s3 true 0 2 = f := ⟨_, rfl⟩
      have HF : Hid (mayF (11, (r : Int), B, C) L = !f) := by show mayF _ _ = _; simp [mayF]; rw [← hf]; simp [List.getD] at hSe; simp [hSe]
      have HI : Hid (∀ z : World, Calls Try.prog 120 #[.agg #[.bool s1, .int .i64 s2, .int .i64 s3], .agg #[.bool true, .int .i64 0, .int .i64 2]] z fun e w' => e = .returned (.bool f) ∧ Below z.heap.size z w') := fun z => by have := in_spec s1 s2 s3 true 0 2 z; rw [hf] at this; exact this
      have HS0 : Hid (Spn x0 g (o + r * 3) (s1, s2, s3)) := by have := HQ.out.2 r hr3; rw [hSe] at this; exact this
      clear HQ r4 r10 r11 r12 h1 h2 hr0 hr2 hSe hf
      have HK : Hid (Below x0.heap.size x0 ((x0.alloc (.cells #[.int .i64 11, .int .i64 (r : Int), .int .i64 B, .int .i64 C] 104)).alloc (.cells #[.bool a, .slice (some ⟨g, o, none⟩) 3 cap, .bool c, .int .i64 l, .int .i64 u] 36))) := by show Below _ _ _; go_grown
      have HB0 : Hid (((x0.alloc (.cells #[.int .i64 11, .int .i64 (r : Int), .int .i64 B, .int .i64 C] 104)).alloc (.cells #[.bool a, .slice (some ⟨g, o, none⟩) 3 cap, .bool c, .int .i64 l, .int .i64 u] 36)).cell? ⟨x0.heap.size, 1, none⟩ = some (.int .i64 r) ∧ ((x0.alloc (.cells #[.int .i64 11, .int .i64 (r : Int), .int .i64 B, .int .i64 C] 104)).alloc (.cells #[.bool a, .slice (some ⟨g, o, none⟩) 3 cap, .bool c, .int .i64 l, .int .i64 u] 36)).cell? ⟨x0.heap.size + 1, 1, none⟩ = some (.slice (some ⟨g, o, none⟩) 3 cap) ∧ x0.heap.size + 1 < ((x0.alloc (.cells #[.int .i64 11, .int .i64 (r : Int), .int .i64 B, .int .i64 C] 104)).alloc (.cells #[.bool a, .slice (some ⟨g, o, none⟩) 3 cap, .bool c, .int .i64 l, .int .i64 u] 36)).heap.size) := ⟨by simp [go_sem], by simp [go_sem], by simp⟩
      go_enter Try.func89, Try.ntmps89
      go_wp2_with fail
      generalize (x0.alloc (.cells #[.int .i64 11, .int .i64 (r : Int), .int .i64 B, .int .i64 C] 104)).alloc (.cells #[.bool a, .slice (some ⟨g, o, none⟩) 3 cap, .bool c, .int .i64 l, .int .i64 u] 36) = X at HK HB0 ⊢
      refine wp_region_preds (by kernel_rfl) (by kernel_rfl) (by kernel_rfl) (by kernel_rfl) (fun j => [(fun v _ => v = .pointer (some ⟨x0.heap.size + 1, 1, none⟩)), (fun v _ => v = .slice (some ⟨g, o, none⟩) 3 cap), (fun v _ => v = .pointer (some ⟨x0.heap.size, 1, none⟩)), (fun v _ => v = .int .i64 r), (fun v _ => v = .pointer (some ⟨g, o + r * 3, none⟩)), (fun v _ => v = .agg #[.bool s1, .int .i64 s2, .int .i64 s3]), (fun v _ => v = .agg #[.bool true, .int .i64 0, .int .i64 2]), (fun v _ => v = .bool f), (fun v _ => v = .bool (!f)), (fun v _ => v = .bool (!f))].getD j (fun _ _ => True)) ?stable X ((Below.refl _ _).drew) ?step (fun U => ⟨List.toArray ((.agg #[.int .i64 11, .int .i64 ↑r, .int .i64 B, .int .i64 C]) :: (.agg #[.bool a, .slice (some ⟨g, o, none⟩) 3 cap, .bool c, .int .i64 l, .int .i64 u]) :: (.pointer (some ⟨x0.heap.size, 0, none⟩)) :: (.pointer (some ⟨x0.heap.size + 1, 0, none⟩)) :: (U 9) :: (.pointer (some ⟨x0.heap.size, 0, none⟩)) :: (.int .i64 11) :: (.bool false) :: (.bool false) :: (undef) :: (undef) :: (undef) :: (undef) :: (undef) :: (undef) :: (undef) :: (undef) :: (undef) :: (undef) :: (undef) :: (undef) :: (.bool false) :: (.bool false) :: (undef) :: (undef) :: (undef) :: (undef) :: (undef) :: (undef) :: (undef) :: (.bool true) :: (.bool true) :: (U 0) :: (U 1) :: (U 2) :: (U 3) :: (U 4) :: (U 5) :: (U 6) :: (U 7) :: (U 8) :: (undef) :: (undef) :: (undef) :: (undef) :: (undef) :: (undef) :: (undef) :: (undef) :: (undef) :: (undef) :: (undef) :: []), []⟩) (fun U => by kernel_rfl) ?last
      case stable =>
        intro i v x y ht hb
        rcases i with _ | i
        · exact ht
        rcases i with _ | i
        · exact ht
        rcases i with _ | i
        · exact ht
        rcases i with _ | i
        · exact ht
        rcases i with _ | i
        · exact ht
        rcases i with _ | i
        · exact ht
        rcases i with _ | i
        · exact ht
        rcases i with _ | i
        · exact ht
        rcases i with _ | i
        · exact ht
        rcases i with _ | i
        · exact ht
        exact trivial
      case step =>
        intro i o ho ρ y x hBx hdep hout
        rcases i with _ | i
        · obtain rfl := Option.some.inj ho
          have o3 : ρ (.tmp 3) = .pointer (some ⟨x0.heap.size + 1, 0, none⟩) := hout (.tmp 3) rfl
          have ocn : ∀ v, ρ (.const v) = v := fun v => hout (.const v) rfl
          have ofn : ∀ f, ρ (.func f) = .func (.func f) #[] #[] := fun f => hout (.func f) rfl
          clear hdep hout
          refine .inl ⟨rfl, ?_⟩
          show GivesP _ _ _ (fun v _ => v = .pointer (some ⟨x0.heap.size + 1, 1, none⟩)) _
          refine GivesP.val (.pointer (some ⟨x0.heap.size + 1, 1, none⟩)) rfl ?_
          go_simp
        rcases i with _ | i
        · obtain rfl := Option.some.inj ho
          have e0 : ρ (.tmp 32) = .pointer (some ⟨x0.heap.size + 1, 1, none⟩) := (hdep ⟨0, .data⟩ (by simp) rfl 32 rfl).1
          have ocn : ∀ v, ρ (.const v) = v := fun v => hout (.const v) rfl
          have ofn : ∀ f, ρ (.func f) = .func (.func f) #[] #[] := fun f => hout (.func f) rfl
          clear hdep hout
          refine .inl ⟨rfl, ?_⟩
          have hgX : g < X.heap.size := Nat.lt_of_lt_of_le hg HK.out.size
          obtain ⟨q0, q1, q2⟩ := (HS0.out.later HK.out hg).later hBx hgX
          have hX1 := HB0.out.2.2
          have hX0 : x0.heap.size < X.heap.size := by omega
          have p0 := (hBx.cell (p := ⟨x0.heap.size, 1, none⟩) hX0).trans HB0.out.1
          have p1 := (hBx.cell (p := ⟨x0.heap.size + 1, 1, none⟩) hX1).trans HB0.out.2.1
          simp only at q0 q1 q2
          show GivesP _ _ _ (fun v _ => v = .slice (some ⟨g, o, none⟩) 3 cap) _
          refine GivesP.val (.slice (some ⟨g, o, none⟩) 3 cap) rfl ?_
          go_simp
        rcases i with _ | i
        · obtain rfl := Option.some.inj ho
          have o2 : ρ (.tmp 2) = .pointer (some ⟨x0.heap.size, 0, none⟩) := hout (.tmp 2) rfl
          have ocn : ∀ v, ρ (.const v) = v := fun v => hout (.const v) rfl
          have ofn : ∀ f, ρ (.func f) = .func (.func f) #[] #[] := fun f => hout (.func f) rfl
          clear hdep hout
          refine .inl ⟨rfl, ?_⟩
          show GivesP _ _ _ (fun v _ => v = .pointer (some ⟨x0.heap.size, 1, none⟩)) _
          refine GivesP.val (.pointer (some ⟨x0.heap.size, 1, none⟩)) rfl ?_
          go_simp
        rcases i with _ | i
        · obtain rfl := Option.some.inj ho
          have e2 : ρ (.tmp 34) = .pointer (some ⟨x0.heap.size, 1, none⟩) := (hdep ⟨2, .data⟩ (by simp) rfl 34 rfl).1
          have ocn : ∀ v, ρ (.const v) = v := fun v => hout (.const v) rfl
          have ofn : ∀ f, ρ (.func f) = .func (.func f) #[] #[] := fun f => hout (.func f) rfl
          clear hdep hout
          refine .inl ⟨rfl, ?_⟩
          have hgX : g < X.heap.size := Nat.lt_of_lt_of_le hg HK.out.size
          obtain ⟨q0, q1, q2⟩ := (HS0.out.later HK.out hg).later hBx hgX
          have hX1 := HB0.out.2.2
          have hX0 : x0.heap.size < X.heap.size := by omega
          have p0 := (hBx.cell (p := ⟨x0.heap.size, 1, none⟩) hX0).trans HB0.out.1
          have p1 := (hBx.cell (p := ⟨x0.heap.size + 1, 1, none⟩) hX1).trans HB0.out.2.1
          simp only at q0 q1 q2
          show GivesP _ _ _ (fun v _ => v = .int .i64 r) _
          refine GivesP.val (.int .i64 r) rfl ?_
          go_simp
        rcases i with _ | i
        · obtain rfl := Option.some.inj ho
          have e1 : ρ (.tmp 33) = .slice (some ⟨g, o, none⟩) 3 cap := (hdep ⟨1, .data⟩ (by simp) rfl 33 rfl).1
          have e3 : ρ (.tmp 35) = .int .i64 r := (hdep ⟨3, .data⟩ (by simp) rfl 35 rfl).1
          have ocn : ∀ v, ρ (.const v) = v := fun v => hout (.const v) rfl
          have ofn : ∀ f, ρ (.func f) = .func (.func f) #[] #[] := fun f => hout (.func f) rfl
          clear hdep hout
          refine .inl ⟨rfl, ?_⟩
          show GivesP _ _ _ (fun v _ => v = .pointer (some ⟨g, o + r * 3, none⟩)) _
          refine GivesP.val (.pointer (some ⟨g, o + r * 3, none⟩)) rfl ?_
          go_simp
        rcases i with _ | i
        · obtain rfl := Option.some.inj ho
          have e4 : ρ (.tmp 36) = .pointer (some ⟨g, o + r * 3, none⟩) := (hdep ⟨4, .data⟩ (by simp) rfl 36 rfl).1
          have ocn : ∀ v, ρ (.const v) = v := fun v => hout (.const v) rfl
          have ofn : ∀ f, ρ (.func f) = .func (.func f) #[] #[] := fun f => hout (.func f) rfl
          clear hdep hout
          refine .inl ⟨rfl, ?_⟩
          have hgX : g < X.heap.size := Nat.lt_of_lt_of_le hg HK.out.size
          obtain ⟨q0, q1, q2⟩ := (HS0.out.later HK.out hg).later hBx hgX
          have hX1 := HB0.out.2.2
          have hX0 : x0.heap.size < X.heap.size := by omega
          have p0 := (hBx.cell (p := ⟨x0.heap.size, 1, none⟩) hX0).trans HB0.out.1
          have p1 := (hBx.cell (p := ⟨x0.heap.size + 1, 1, none⟩) hX1).trans HB0.out.2.1
          simp only at q0 q1 q2
          show GivesP _ _ _ (fun v _ => v = .agg #[.bool s1, .int .i64 s2, .int .i64 s3]) _
          refine GivesP.val (.agg #[.bool s1, .int .i64 s2, .int .i64 s3]) rfl ?_
          go_simp
        rcases i with _ | i
        · obtain rfl := Option.some.inj ho
          have ocn : ∀ v, ρ (.const v) = v := fun v => hout (.const v) rfl
          have ofn : ∀ f, ρ (.func f) = .func (.func f) #[] #[] := fun f => hout (.func f) rfl
          clear hdep hout
          refine .inl ⟨rfl, ?_⟩
          show GivesP _ _ _ (fun v _ => v = .agg #[.bool true, .int .i64 0, .int .i64 2]) _
          refine GivesP.call ((l12Places_any x).mono fun e w9 h9 => ⟨_, h9.1, rfl, h9.2⟩) ?_
          go_simp
        rcases i with _ | i
        · obtain rfl := Option.some.inj ho
          have e5 : ρ (.tmp 37) = .agg #[.bool s1, .int .i64 s2, .int .i64 s3] := (hdep ⟨5, .data⟩ (by simp) rfl 37 rfl).1
          have e6 : ρ (.tmp 38) = .agg #[.bool true, .int .i64 0, .int .i64 2] := (hdep ⟨6, .data⟩ (by simp) rfl 38 rfl).1
          have ocn : ∀ v, ρ (.const v) = v := fun v => hout (.const v) rfl
          have ofn : ∀ f, ρ (.func f) = .func (.func f) #[] #[] := fun f => hout (.func f) rfl
          clear hdep hout
          refine .inl ⟨rfl, ?_⟩
          show GivesP _ _ _ (fun v _ => v = .bool f) _
          refine GivesP.call ((HI.out x).mono fun e w9 h9 => ⟨_, h9.1, rfl, h9.2⟩) ?_
          go_simp
        rcases i with _ | i
        · obtain rfl := Option.some.inj ho
          have e7 : ρ (.tmp 39) = .bool f := (hdep ⟨7, .data⟩ (by simp) rfl 39 rfl).1
          have ocn : ∀ v, ρ (.const v) = v := fun v => hout (.const v) rfl
          have ofn : ∀ f, ρ (.func f) = .func (.func f) #[] #[] := fun f => hout (.func f) rfl
          clear hdep hout
          refine .inl ⟨rfl, ?_⟩
          show GivesP _ _ _ (fun v _ => v = .bool (!f)) _
          refine GivesP.val (.bool (!f)) rfl ?_
          go_simp
        rcases i with _ | i
        · obtain rfl := Option.some.inj ho
          have e8 : ρ (.tmp 40) = .bool (!f) := (hdep ⟨8, .data⟩ (by simp) rfl 40 rfl).1
          have ocn : ∀ v, ρ (.const v) = v := fun v => hout (.const v) rfl
          have ofn : ∀ f, ρ (.func f) = .func (.func f) #[] #[] := fun f => hout (.func f) rfl
          clear hdep hout
          refine .inl ⟨rfl, ?_⟩
          show GivesP _ _ _ (fun v _ => v = .bool (!f)) _
          refine GivesP.val (.bool (!f)) rfl ?_
          go_simp
        cases ho
      case last =>
        intro U z hBx hV
        have e9 : U 9 = .bool (!f) := hV 9 (by simp)
        clear hV
        have hBf := HK.out.trans (hBx.mono HK.out.size)
        rw [e9]
        go_wp2_with fail
        go_ret
        exact ⟨retBool HF.out.symm, hBf⟩
    · obtain ⟨hr0, hr2⟩ := r12 rfl
      obtain ⟨r, rfl⟩ : ∃ r : Nat, B = r := ⟨B.toNat, by omega⟩
      have hri : (r : Int) < 3 := by omega
      have hr3 : r < 3 := by omega
      obtain ⟨s1, s2, s3, hSe⟩ : ∃ s1 s2 s3, L.getD r noSp = (s1, s2, s3) := ⟨_, _, _, rfl⟩
      obtain ⟨f, hf⟩ : ∃ f, inF s1 s2 s3 true 0 2 = f := ⟨_, rfl⟩
      have HF : Hid (mayF (12, A, (r : Int), C) L = !f) := by show mayF _ _ = _; simp [mayF]; rw [← hf]; simp [List.getD] at hSe; simp [hSe]
      have HI : Hid (∀ z : World, Calls Try.prog 120 #[.agg #[.bool s1, .int .i64 s2, .int .i64 s3], .agg #[.bool true, .int .i64 0, .int .i64 2]] z fun e w' => e = .returned (.bool f) ∧ Below z.heap.size z w') := fun z => by have := in_spec s1 s2 s3 true 0 2 z; rw [hf] at this; exact this
      have HS0 : Hid (Spn x0 g (o + r * 3) (s1, s2, s3)) := by have := HQ.out.2 r hr3; rw [hSe] at this; exact this
      clear HQ r4 r10 r11 r12 h1 h2 hr0 hr2 hSe hf
      have HK : Hid (Below x0.heap.size x0 ((x0.alloc (.cells #[.int .i64 12, .int .i64 A, .int .i64 (r : Int), .int .i64 C] 104)).alloc (.cells #[.bool a, .slice (some ⟨g, o, none⟩) 3 cap, .bool c, .int .i64 l, .int .i64 u] 36))) := by show Below _ _ _; go_grown
      have HB0 : Hid (((x0.alloc (.cells #[.int .i64 12, .int .i64 A, .int .i64 (r : Int), .int .i64 C] 104)).alloc (.cells #[.bool a, .slice (some ⟨g, o, none⟩) 3 cap, .bool c, .int .i64 l, .int .i64 u] 36)).cell? ⟨x0.heap.size, 2, none⟩ = some (.int .i64 r) ∧ ((x0.alloc (.cells #[.int .i64 12, .int .i64 A, .int .i64 (r : Int), .int .i64 C] 104)).alloc (.cells #[.bool a, .slice (some ⟨g, o, none⟩) 3 cap, .bool c, .int .i64 l, .int .i64 u] 36)).cell? ⟨x0.heap.size + 1, 1, none⟩ = some (.slice (some ⟨g, o, none⟩) 3 cap) ∧ x0.heap.size + 1 < ((x0.alloc (.cells #[.int .i64 12, .int .i64 A, .int .i64 (r : Int), .int .i64 C] 104)).alloc (.cells #[.bool a, .slice (some ⟨g, o, none⟩) 3 cap, .bool c, .int .i64 l, .int .i64 u] 36)).heap.size) := ⟨by simp [go_sem], by simp [go_sem], by simp⟩
      go_enter Try.func89, Try.ntmps89
      go_wp2_with fail
      generalize (x0.alloc (.cells #[.int .i64 12, .int .i64 A, .int .i64 (r : Int), .int .i64 C] 104)).alloc (.cells #[.bool a, .slice (some ⟨g, o, none⟩) 3 cap, .bool c, .int .i64 l, .int .i64 u] 36) = X at HK HB0 ⊢
      refine wp_region_preds (by kernel_rfl) (by kernel_rfl) (by kernel_rfl) (by kernel_rfl) (fun j => [(fun v _ => v = .pointer (some ⟨x0.heap.size + 1, 1, none⟩)), (fun v _ => v = .slice (some ⟨g, o, none⟩) 3 cap), (fun v _ => v = .pointer (some ⟨x0.heap.size, 2, none⟩)), (fun v _ => v = .int .i64 r), (fun v _ => v = .pointer (some ⟨g, o + r * 3, none⟩)), (fun v _ => v = .agg #[.bool s1, .int .i64 s2, .int .i64 s3]), (fun v _ => v = .agg #[.bool true, .int .i64 0, .int .i64 2]), (fun v _ => v = .bool f), (fun v _ => v = .bool (!f)), (fun v _ => v = .bool (!f))].getD j (fun _ _ => True)) ?stable X ((Below.refl _ _).drew) ?step (fun U => ⟨List.toArray ((.agg #[.int .i64 12, .int .i64 A, .int .i64 ↑r, .int .i64 C]) :: (.agg #[.bool a, .slice (some ⟨g, o, none⟩) 3 cap, .bool c, .int .i64 l, .int .i64 u]) :: (.pointer (some ⟨x0.heap.size, 0, none⟩)) :: (.pointer (some ⟨x0.heap.size + 1, 0, none⟩)) :: (U 9) :: (.pointer (some ⟨x0.heap.size, 0, none⟩)) :: (.int .i64 12) :: (.bool false) :: (.bool false) :: (undef) :: (undef) :: (undef) :: (undef) :: (undef) :: (undef) :: (undef) :: (undef) :: (undef) :: (undef) :: (undef) :: (undef) :: (.bool false) :: (.bool false) :: (undef) :: (undef) :: (undef) :: (undef) :: (undef) :: (undef) :: (undef) :: (.bool false) :: (.bool false) :: (undef) :: (undef) :: (undef) :: (undef) :: (undef) :: (undef) :: (undef) :: (undef) :: (undef) :: (.bool true) :: (.bool true) :: (U 0) :: (U 1) :: (U 2) :: (U 3) :: (U 4) :: (U 5) :: (U 6) :: (U 7) :: (U 8) :: []), []⟩) (fun U => by kernel_rfl) ?last
      case stable =>
        intro i v x y ht hb
        rcases i with _ | i
        · exact ht
        rcases i with _ | i
        · exact ht
        rcases i with _ | i
        · exact ht
        rcases i with _ | i
        · exact ht
        rcases i with _ | i
        · exact ht
        rcases i with _ | i
        · exact ht
        rcases i with _ | i
        · exact ht
        rcases i with _ | i
        · exact ht
        rcases i with _ | i
        · exact ht
        rcases i with _ | i
        · exact ht
        exact trivial
      case step =>
        intro i o ho ρ y x hBx hdep hout
        rcases i with _ | i
        · obtain rfl := Option.some.inj ho
          have o3 : ρ (.tmp 3) = .pointer (some ⟨x0.heap.size + 1, 0, none⟩) := hout (.tmp 3) rfl
          have ocn : ∀ v, ρ (.const v) = v := fun v => hout (.const v) rfl
          have ofn : ∀ f, ρ (.func f) = .func (.func f) #[] #[] := fun f => hout (.func f) rfl
          clear hdep hout
          refine .inl ⟨rfl, ?_⟩
          show GivesP _ _ _ (fun v _ => v = .pointer (some ⟨x0.heap.size + 1, 1, none⟩)) _
          refine GivesP.val (.pointer (some ⟨x0.heap.size + 1, 1, none⟩)) rfl ?_
          go_simp
        rcases i with _ | i
        · obtain rfl := Option.some.inj ho
          have e0 : ρ (.tmp 43) = .pointer (some ⟨x0.heap.size + 1, 1, none⟩) := (hdep ⟨0, .data⟩ (by simp) rfl 43 rfl).1
          have ocn : ∀ v, ρ (.const v) = v := fun v => hout (.const v) rfl
          have ofn : ∀ f, ρ (.func f) = .func (.func f) #[] #[] := fun f => hout (.func f) rfl
          clear hdep hout
          refine .inl ⟨rfl, ?_⟩
          have hgX : g < X.heap.size := Nat.lt_of_lt_of_le hg HK.out.size
          obtain ⟨q0, q1, q2⟩ := (HS0.out.later HK.out hg).later hBx hgX
          have hX1 := HB0.out.2.2
          have hX0 : x0.heap.size < X.heap.size := by omega
          have p0 := (hBx.cell (p := ⟨x0.heap.size, 2, none⟩) hX0).trans HB0.out.1
          have p1 := (hBx.cell (p := ⟨x0.heap.size + 1, 1, none⟩) hX1).trans HB0.out.2.1
          simp only at q0 q1 q2
          show GivesP _ _ _ (fun v _ => v = .slice (some ⟨g, o, none⟩) 3 cap) _
          refine GivesP.val (.slice (some ⟨g, o, none⟩) 3 cap) rfl ?_
          go_simp
        rcases i with _ | i
        · obtain rfl := Option.some.inj ho
          have o2 : ρ (.tmp 2) = .pointer (some ⟨x0.heap.size, 0, none⟩) := hout (.tmp 2) rfl
          have ocn : ∀ v, ρ (.const v) = v := fun v => hout (.const v) rfl
          have ofn : ∀ f, ρ (.func f) = .func (.func f) #[] #[] := fun f => hout (.func f) rfl
          clear hdep hout
          refine .inl ⟨rfl, ?_⟩
          show GivesP _ _ _ (fun v _ => v = .pointer (some ⟨x0.heap.size, 2, none⟩)) _
          refine GivesP.val (.pointer (some ⟨x0.heap.size, 2, none⟩)) rfl ?_
          go_simp
        rcases i with _ | i
        · obtain rfl := Option.some.inj ho
          have e2 : ρ (.tmp 45) = .pointer (some ⟨x0.heap.size, 2, none⟩) := (hdep ⟨2, .data⟩ (by simp) rfl 45 rfl).1
          have ocn : ∀ v, ρ (.const v) = v := fun v => hout (.const v) rfl
          have ofn : ∀ f, ρ (.func f) = .func (.func f) #[] #[] := fun f => hout (.func f) rfl
          clear hdep hout
          refine .inl ⟨rfl, ?_⟩
          have hgX : g < X.heap.size := Nat.lt_of_lt_of_le hg HK.out.size
          obtain ⟨q0, q1, q2⟩ := (HS0.out.later HK.out hg).later hBx hgX
          have hX1 := HB0.out.2.2
          have hX0 : x0.heap.size < X.heap.size := by omega
          have p0 := (hBx.cell (p := ⟨x0.heap.size, 2, none⟩) hX0).trans HB0.out.1
          have p1 := (hBx.cell (p := ⟨x0.heap.size + 1, 1, none⟩) hX1).trans HB0.out.2.1
          simp only at q0 q1 q2
          show GivesP _ _ _ (fun v _ => v = .int .i64 r) _
          refine GivesP.val (.int .i64 r) rfl ?_
          go_simp
        rcases i with _ | i
        · obtain rfl := Option.some.inj ho
          have e1 : ρ (.tmp 44) = .slice (some ⟨g, o, none⟩) 3 cap := (hdep ⟨1, .data⟩ (by simp) rfl 44 rfl).1
          have e3 : ρ (.tmp 46) = .int .i64 r := (hdep ⟨3, .data⟩ (by simp) rfl 46 rfl).1
          have ocn : ∀ v, ρ (.const v) = v := fun v => hout (.const v) rfl
          have ofn : ∀ f, ρ (.func f) = .func (.func f) #[] #[] := fun f => hout (.func f) rfl
          clear hdep hout
          refine .inl ⟨rfl, ?_⟩
          show GivesP _ _ _ (fun v _ => v = .pointer (some ⟨g, o + r * 3, none⟩)) _
          refine GivesP.val (.pointer (some ⟨g, o + r * 3, none⟩)) rfl ?_
          go_simp
        rcases i with _ | i
        · obtain rfl := Option.some.inj ho
          have e4 : ρ (.tmp 47) = .pointer (some ⟨g, o + r * 3, none⟩) := (hdep ⟨4, .data⟩ (by simp) rfl 47 rfl).1
          have ocn : ∀ v, ρ (.const v) = v := fun v => hout (.const v) rfl
          have ofn : ∀ f, ρ (.func f) = .func (.func f) #[] #[] := fun f => hout (.func f) rfl
          clear hdep hout
          refine .inl ⟨rfl, ?_⟩
          have hgX : g < X.heap.size := Nat.lt_of_lt_of_le hg HK.out.size
          obtain ⟨q0, q1, q2⟩ := (HS0.out.later HK.out hg).later hBx hgX
          have hX1 := HB0.out.2.2
          have hX0 : x0.heap.size < X.heap.size := by omega
          have p0 := (hBx.cell (p := ⟨x0.heap.size, 2, none⟩) hX0).trans HB0.out.1
          have p1 := (hBx.cell (p := ⟨x0.heap.size + 1, 1, none⟩) hX1).trans HB0.out.2.1
          simp only at q0 q1 q2
          show GivesP _ _ _ (fun v _ => v = .agg #[.bool s1, .int .i64 s2, .int .i64 s3]) _
          refine GivesP.val (.agg #[.bool s1, .int .i64 s2, .int .i64 s3]) rfl ?_
          go_simp
        rcases i with _ | i
        · obtain rfl := Option.some.inj ho
          have ocn : ∀ v, ρ (.const v) = v := fun v => hout (.const v) rfl
          have ofn : ∀ f, ρ (.func f) = .func (.func f) #[] #[] := fun f => hout (.func f) rfl
          clear hdep hout
          refine .inl ⟨rfl, ?_⟩
          show GivesP _ _ _ (fun v _ => v = .agg #[.bool true, .int .i64 0, .int .i64 2]) _
          refine GivesP.call ((l12Places_any x).mono fun e w9 h9 => ⟨_, h9.1, rfl, h9.2⟩) ?_
          go_simp
        rcases i with _ | i
        · obtain rfl := Option.some.inj ho
          have e5 : ρ (.tmp 48) = .agg #[.bool s1, .int .i64 s2, .int .i64 s3] := (hdep ⟨5, .data⟩ (by simp) rfl 48 rfl).1
          have e6 : ρ (.tmp 49) = .agg #[.bool true, .int .i64 0, .int .i64 2] := (hdep ⟨6, .data⟩ (by simp) rfl 49 rfl).1
          have ocn : ∀ v, ρ (.const v) = v := fun v => hout (.const v) rfl
          have ofn : ∀ f, ρ (.func f) = .func (.func f) #[] #[] := fun f => hout (.func f) rfl
          clear hdep hout
          refine .inl ⟨rfl, ?_⟩
          show GivesP _ _ _ (fun v _ => v = .bool f) _
          refine GivesP.call ((HI.out x).mono fun e w9 h9 => ⟨_, h9.1, rfl, h9.2⟩) ?_
          go_simp
        rcases i with _ | i
        · obtain rfl := Option.some.inj ho
          have e7 : ρ (.tmp 50) = .bool f := (hdep ⟨7, .data⟩ (by simp) rfl 50 rfl).1
          have ocn : ∀ v, ρ (.const v) = v := fun v => hout (.const v) rfl
          have ofn : ∀ f, ρ (.func f) = .func (.func f) #[] #[] := fun f => hout (.func f) rfl
          clear hdep hout
          refine .inl ⟨rfl, ?_⟩
          show GivesP _ _ _ (fun v _ => v = .bool (!f)) _
          refine GivesP.val (.bool (!f)) rfl ?_
          go_simp
        rcases i with _ | i
        · obtain rfl := Option.some.inj ho
          have e8 : ρ (.tmp 51) = .bool (!f) := (hdep ⟨8, .data⟩ (by simp) rfl 51 rfl).1
          have ocn : ∀ v, ρ (.const v) = v := fun v => hout (.const v) rfl
          have ofn : ∀ f, ρ (.func f) = .func (.func f) #[] #[] := fun f => hout (.func f) rfl
          clear hdep hout
          refine .inl ⟨rfl, ?_⟩
          show GivesP _ _ _ (fun v _ => v = .bool (!f)) _
          refine GivesP.val (.bool (!f)) rfl ?_
          go_simp
        cases ho
      case last =>
        intro U z hBx hV
        have e9 : U 9 = .bool (!f) := hV 9 (by simp)
        clear hV
        have hBf := HK.out.trans (hBx.mono HK.out.size)
        rw [e9]
        go_wp2_with fail
        go_ret
        exact ⟨retBool HF.out.symm, hBf⟩
  · obtain rfl | rfl | rfl | rfl | rfl | rfl | rfl | rfl : K = 1 ∨ K = 2 ∨ K = 3 ∨ K = 5 ∨ K = 6 ∨ K = 7 ∨ K = 8 ∨ K = 9 := by omega
    all_goals
      clear h1 h2 r4 r10 r11 r12 hk HQ
      go_enter Try.func89, Try.ntmps89
      go_wp2_with fail
      go_ret
      exact ⟨retBool (by simp [mayF]), by go_grown⟩

end Go.Proofs.Ytpogahhfdneagaa
