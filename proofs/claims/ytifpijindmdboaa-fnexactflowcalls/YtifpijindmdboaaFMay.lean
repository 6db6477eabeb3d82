/-
  The contract of the program's mayBeWrong.
-/
import Derived.Test.YtifpijindmdboaaFWr
namespace Go.Proofs.Ytifpijindmdboaa
open Go.RowKit
set_option linter.unusedVariables false
set_option linter.unusedSimpArgs false
attribute [local go_sem] ta_set_do ta_move_do ta_ask_do ta_do_do ta_go_do ta_less_do ta_same_do ta_call_do ta_back_do ta_hold_do ta_put_do ta_get_do ta_nil_do ta_nil_hold ta_nil_put ta_nil_get ta_set_hold ta_set_put ta_set_get ta_move_hold ta_move_put ta_move_get ta_ask_hold ta_ask_put ta_ask_get ta_do_hold ta_do_put ta_do_get ta_go_hold ta_go_put ta_go_get ta_less_hold ta_less_put ta_less_get ta_same_hold ta_same_put ta_same_get ta_call_hold ta_call_put ta_call_get ta_back_hold ta_back_put ta_back_get ta_hold_hold ta_hold_put ta_hold_get ta_put_hold ta_put_put ta_put_get ta_get_hold ta_get_put ta_get_get

/-- the three spans of the registers -/
def Rg3 (x : World) (g o : Nat) (L : List Sp) : Prop := g < x.heap.size ∧ ∀ j, j < 3 → Spn x g (o + j * 3) (L.getD j noSp)
theorem Rg3.later {x y : World} {g o : Nat} {L : List Sp} (h : Rg3 x g o L) (hb : Below x.heap.size x y) : Rg3 y g o L := ⟨Nat.lt_of_lt_of_le h.1 hb.size, fun j hj => (h.2 j hj).later hb h.1⟩

set_option maxHeartbeats 2000000 in
theorem mayBe_nil (x0 : World) (s : Value) : Calls Try.prog 91 #[.nilIface, s] x0 fun e y => e = .returned (.bool false) ∧ Below x0.heap.size x0 y := by
  go_enter Try.func91, Try.ntmps91
  go_wp2_with fail
  go_ret
  exact ⟨rfl, by go_grown⟩
set_option maxRecDepth 100000 in
set_option maxHeartbeats 8000000 in
theorem mayBeWrong_any (x0 : World) (I : I4) (h1 : 1 ≤ I.1) (h2 : I.1 ≤ 12) (hr : regsOk I) (g o cap : Nat) (L : List Sp) (hq : Rg3 x0 g o L) :
    Calls Try.prog 91 #[ifcF I, .slice (some ⟨g, o, none⟩) 3 cap] x0 fun e y => e = .returned (.bool (mayF I L)) ∧ Below x0.heap.size x0 y := by
  obtain ⟨K, A, B, C⟩ := I
  simp only at h1 h2
  obtain ⟨r4, r10, r11, r12⟩ := hr
  simp only at r4 r10 r11 r12
  have hg := hq.1
  have HQ : Hid (Rg3 x0 g o L) := hq
  clear hq
  have hg1 : g < x0.heap.size + 1 := by omega
  by_cases hk : K = 4 ∨ K = 10 ∨ K = 11 ∨ K = 12
  · rcases hk with rfl | rfl | rfl | rfl
    · obtain ⟨hr0, hr2⟩ := r4 rfl
      obtain ⟨r, rfl⟩ : ∃ r : Nat, B = r := ⟨B.toNat, by omega⟩
      have hri : (r : Int) < 3 := by omega
      have hsp := HQ.out.2 r (by omega)
      have HF : Hid (mayF (4, A, (r : Int), C) L = (decide (C = 4) && hasF (L.getD r noSp).1 (L.getD r noSp).2.1 (L.getD r noSp).2.2 0)) := by show mayF _ _ = _; simp [mayF]
      generalize L.getD r noSp = S at hsp HF
      obtain ⟨s1, s2, s3⟩ := S
      obtain ⟨q0, q1, q2⟩ := hsp
      simp only at q0 q1 q2 HF
      clear HQ r4 r10 r11 r12 h1 h2 hr0 hr2
      simp only [ifcF]
      by_cases hc : C = 4
      · subst hc
        go_enter Try.func91, Try.ntmps91
        go_wp2_with fail
        refine (has_impl s1 s2 s3 0 _).mono ?_
        rintro e y ⟨rfl, hb⟩
        have hB : Below x0.heap.size x0 y := ((Below.refl _ _).alloc (Nat.le_refl _) _).trans (hb.mono (by simp))
        go_wp2_with fail
        go_ret
        exact ⟨by rw [HF.out]; simp, hB⟩
      · have hc' : (C == 4) = false := by simpa using hc
        go_enter Try.func91, Try.ntmps91
        go_wp2_with fail
        go_ret
        exact ⟨by rw [HF.out]; simp [hc], by go_grown⟩
    · obtain ⟨hr0, hr2⟩ := r10 rfl
      obtain ⟨r, rfl⟩ : ∃ r : Nat, A = r := ⟨A.toNat, by omega⟩
      have hri : (r : Int) < 3 := by omega
      have hsp := HQ.out.2 r (by omega)
      have HF : Hid (mayF (10, (r : Int), B, C) L = hasF (L.getD r noSp).1 (L.getD r noSp).2.1 (L.getD r noSp).2.2 0) := by show mayF _ _ = _; simp [mayF]
      generalize L.getD r noSp = S at hsp HF
      obtain ⟨s1, s2, s3⟩ := S
      obtain ⟨q0, q1, q2⟩ := hsp
      simp only at q0 q1 q2 HF
      clear HQ r4 r10 r11 r12 h1 h2 hr0 hr2
      simp only [ifcF]
      go_enter Try.func91, Try.ntmps91
      go_wp2_with fail
      refine (has_impl s1 s2 s3 0 _).mono ?_
      rintro e y ⟨rfl, hb⟩
      have hB : Below x0.heap.size x0 y := ((Below.refl _ _).alloc (Nat.le_refl _) _).trans (hb.mono (by simp))
      go_wp2_with fail
      go_ret
      exact ⟨retBool HF.out.symm, hB⟩
    · obtain ⟨hr0, hr2⟩ := r11 rfl
      obtain ⟨r, rfl⟩ : ∃ r : Nat, A = r := ⟨A.toNat, by omega⟩
      have hri : (r : Int) < 3 := by omega
      have hr3 : r < 3 := by omega
      obtain ⟨s1, s2, s3, hSe⟩ : ∃ s1 s2 s3, L.getD r noSp = (s1, s2, s3) := ⟨_, _, _, rfl⟩
      obtain ⟨f, hf⟩ : ∃ f, inF s1 s2 s3 true 0 2 = f := ⟨_, rfl⟩
      have HF : Hid (mayF (11, (r : Int), B, C) L = !f) := by show mayF _ _ = _; simp [mayF]; rw [← hf]; simp [List.getD] at hSe; simp [hSe]
      have HI : Hid (∀ z : World, Calls Try.prog 123 #[.agg #[.bool s1, .int .i64 s2, .int .i64 s3], .agg #[.bool true, .int .i64 0, .int .i64 2]] z fun e w' => e = .returned (.bool f) ∧ Below z.heap.size z w') := fun z => by have := in_impl s1 s2 s3 true 0 2 z; rw [hf] at this; exact this
      have HS0 : Hid (Spn x0 g (o + r * 3) (s1, s2, s3)) := by have := HQ.out.2 r hr3; rw [hSe] at this; exact this
      clear HQ r4 r10 r11 r12 h1 h2 hr0 hr2 hSe hf
      simp only [ifcF]
      have HK : Hid (Below x0.heap.size x0 (x0.alloc (.cells #[.int .i64 (r : Int), .int .i64 B] 167))) := (Below.refl _ _).alloc (Nat.le_refl _) _
      have HB0 : Hid ((x0.alloc (.cells #[.int .i64 (r : Int), .int .i64 B] 167)).cell? ⟨x0.heap.size, 0, none⟩ = some (.int .i64 r) ∧ x0.heap.size < (x0.alloc (.cells #[.int .i64 (r : Int), .int .i64 B] 167)).heap.size) := ⟨by simp [go_sem], by simp⟩
      go_enter Try.func91, Try.ntmps91
      go_wp2_with fail
      generalize x0.alloc (.cells #[.int .i64 (r : Int), .int .i64 B] 167) = X at HK HB0 ⊢
      refine wp_region_preds (by kernel_rfl) (by kernel_rfl) (by kernel_rfl) (by kernel_rfl) (fun j => [(fun v _ => v = .slice (some ⟨g, o, none⟩) 3 cap), (fun v _ => v = .pointer (some ⟨x0.heap.size, 0, none⟩)), (fun v _ => v = .int .i64 r), (fun v _ => v = .pointer (some ⟨g, o + r * 3, none⟩)), (fun v _ => v = .agg #[.bool s1, .int .i64 s2, .int .i64 s3]), (fun v _ => v = .agg #[.bool true, .int .i64 0, .int .i64 2]), (fun v _ => v = .bool f), (fun v _ => v = .bool (!f)), (fun v _ => v = .bool (!f))].getD j (fun _ _ => True)) ?stable X ((Below.refl _ _).drew) ?step (fun U => ⟨List.toArray ((.iface 167 (.agg #[.int .i64 ↑r, .int .i64 B])) :: (.slice (some ⟨g, o, none⟩) 3 cap) :: (undef) :: (undef) :: (U 8) :: (undef) :: (undef) :: (.pointer (some ⟨x0.heap.size, 0, none⟩)) :: (undef) :: (.iface 167 (.agg #[.int .i64 ↑r, .int .i64 B])) :: (.tuple #[.agg #[.int .i64 0, .int .i64 0, .int .i64 0], .bool false]) :: (.bool false) :: (.agg #[.int .i64 0, .int .i64 0, .int .i64 0]) :: (undef) :: (undef) :: (undef) :: (undef) :: (undef) :: (undef) :: (undef) :: (undef) :: (undef) :: (undef) :: (undef) :: (.tuple #[.agg #[.int .i64 0], .bool false]) :: (.bool false) :: (.agg #[.int .i64 0]) :: (undef) :: (undef) :: (undef) :: (undef) :: (undef) :: (undef) :: (.tuple #[.agg #[.int .i64 ↑r, .int .i64 B], .bool true]) :: (.bool true) :: (.agg #[.int .i64 ↑r, .int .i64 B]) :: (U 0) :: (U 1) :: (U 2) :: (U 3) :: (U 4) :: (U 5) :: (U 6) :: (U 7) :: (undef) :: (undef) :: (undef) :: (undef) :: (undef) :: (undef) :: (undef) :: (undef) :: (undef) :: (undef) :: (undef) :: []), []⟩) (fun U => by kernel_rfl) ?last
      case stable =>
        intro i v x y ht hb
        rcases i with _ | i
        · exact ht
        rcases i with _ | i
        · exact ht
        rcases i with _ | i
        · exact ht
        rcases i with _ | i
        · exact ht
        rcases i with _ | i
        · exact ht
        rcases i with _ | i
        · exact ht
        rcases i with _ | i
        · exact ht
        rcases i with _ | i
        · exact ht
        rcases i with _ | i
        · exact ht
        exact trivial
      case step =>
        intro i o ho ρ y x hBx hdep hout
        rcases i with _ | i
        · obtain rfl := Option.some.inj ho
          have o1 : ρ (.tmp 1) = .slice (some ⟨g, o, none⟩) 3 cap := hout (.tmp 1) rfl
          have ocn : ∀ v, ρ (.const v) = v := fun v => hout (.const v) rfl
          have ofn : ∀ f, ρ (.func f) = .func (.func f) #[] #[] := fun f => hout (.func f) rfl
          clear hdep hout
          refine .inl ⟨rfl, ?_⟩
          show GivesP _ _ _ (fun v _ => v = .slice (some ⟨g, o, none⟩) 3 cap) _
          refine GivesP.val (.slice (some ⟨g, o, none⟩) 3 cap) rfl ?_
          go_simp
        rcases i with _ | i
        · obtain rfl := Option.some.inj ho
          have o7 : ρ (.tmp 7) = .pointer (some ⟨x0.heap.size, 0, none⟩) := hout (.tmp 7) rfl
          have ocn : ∀ v, ρ (.const v) = v := fun v => hout (.const v) rfl
          have ofn : ∀ f, ρ (.func f) = .func (.func f) #[] #[] := fun f => hout (.func f) rfl
          clear hdep hout
          refine .inl ⟨rfl, ?_⟩
          show GivesP _ _ _ (fun v _ => v = .pointer (some ⟨x0.heap.size, 0, none⟩)) _
          refine GivesP.val (.pointer (some ⟨x0.heap.size, 0, none⟩)) rfl ?_
          go_simp
        rcases i with _ | i
        · obtain rfl := Option.some.inj ho
          have e1 : ρ (.tmp 37) = .pointer (some ⟨x0.heap.size, 0, none⟩) := (hdep ⟨1, .data⟩ (by simp) rfl 37 rfl).1
          have ocn : ∀ v, ρ (.const v) = v := fun v => hout (.const v) rfl
          have ofn : ∀ f, ρ (.func f) = .func (.func f) #[] #[] := fun f => hout (.func f) rfl
          clear hdep hout
          refine .inl ⟨rfl, ?_⟩
          have hgX : g < X.heap.size := Nat.lt_of_lt_of_le hg HK.out.size
          obtain ⟨q0, q1, q2⟩ := (HS0.out.later HK.out hg).later hBx hgX
          have p0 := (hBx.cell (p := ⟨x0.heap.size, 0, none⟩) HB0.out.2).trans HB0.out.1
          simp only at q0 q1 q2
          show GivesP _ _ _ (fun v _ => v = .int .i64 r) _
          refine GivesP.val (.int .i64 r) rfl ?_
          go_simp
        rcases i with _ | i
        · obtain rfl := Option.some.inj ho
          have e0 : ρ (.tmp 36) = .slice (some ⟨g, o, none⟩) 3 cap := (hdep ⟨0, .data⟩ (by simp) rfl 36 rfl).1
          have e2 : ρ (.tmp 38) = .int .i64 r := (hdep ⟨2, .data⟩ (by simp) rfl 38 rfl).1
          have ocn : ∀ v, ρ (.const v) = v := fun v => hout (.const v) rfl
          have ofn : ∀ f, ρ (.func f) = .func (.func f) #[] #[] := fun f => hout (.func f) rfl
          clear hdep hout
          refine .inl ⟨rfl, ?_⟩
          show GivesP _ _ _ (fun v _ => v = .pointer (some ⟨g, o + r * 3, none⟩)) _
          refine GivesP.val (.pointer (some ⟨g, o + r * 3, none⟩)) rfl ?_
          go_simp
        rcases i with _ | i
        · obtain rfl := Option.some.inj ho
          have e3 : ρ (.tmp 39) = .pointer (some ⟨g, o + r * 3, none⟩) := (hdep ⟨3, .data⟩ (by simp) rfl 39 rfl).1
          have ocn : ∀ v, ρ (.const v) = v := fun v => hout (.const v) rfl
          have ofn : ∀ f, ρ (.func f) = .func (.func f) #[] #[] := fun f => hout (.func f) rfl
          clear hdep hout
          refine .inl ⟨rfl, ?_⟩
          have hgX : g < X.heap.size := Nat.lt_of_lt_of_le hg HK.out.size
          obtain ⟨q0, q1, q2⟩ := (HS0.out.later HK.out hg).later hBx hgX
          have p0 := (hBx.cell (p := ⟨x0.heap.size, 0, none⟩) HB0.out.2).trans HB0.out.1
          simp only at q0 q1 q2
          show GivesP _ _ _ (fun v _ => v = .agg #[.bool s1, .int .i64 s2, .int .i64 s3]) _
          refine GivesP.val (.agg #[.bool s1, .int .i64 s2, .int .i64 s3]) rfl ?_
          go_simp
        rcases i with _ | i
        · obtain rfl := Option.some.inj ho
          have ocn : ∀ v, ρ (.const v) = v := fun v => hout (.const v) rfl
          have ofn : ∀ f, ρ (.func f) = .func (.func f) #[] #[] := fun f => hout (.func f) rfl
          clear hdep hout
          refine .inl ⟨rfl, ?_⟩
          show GivesP _ _ _ (fun v _ => v = .agg #[.bool true, .int .i64 0, .int .i64 2]) _
          refine GivesP.call ((cellNumbers_any x).mono fun e w9 h9 => ⟨_, h9.1, rfl, h9.2⟩) ?_
          go_simp
        rcases i with _ | i
        · obtain rfl := Option.some.inj ho
          have e4 : ρ (.tmp 40) = .agg #[.bool s1, .int .i64 s2, .int .i64 s3] := (hdep ⟨4, .data⟩ (by simp) rfl 40 rfl).1
          have e5 : ρ (.tmp 41) = .agg #[.bool true, .int .i64 0, .int .i64 2] := (hdep ⟨5, .data⟩ (by simp) rfl 41 rfl).1
          have ocn : ∀ v, ρ (.const v) = v := fun v => hout (.const v) rfl
          have ofn : ∀ f, ρ (.func f) = .func (.func f) #[] #[] := fun f => hout (.func f) rfl
          clear hdep hout
          refine .inl ⟨rfl, ?_⟩
          show GivesP _ _ _ (fun v _ => v = .bool f) _
          refine GivesP.call ((HI.out x).mono fun e w9 h9 => ⟨_, h9.1, rfl, h9.2⟩) ?_
          go_simp
        rcases i with _ | i
        · obtain rfl := Option.some.inj ho
          have e6 : ρ (.tmp 42) = .bool f := (hdep ⟨6, .data⟩ (by simp) rfl 42 rfl).1
          have ocn : ∀ v, ρ (.const v) = v := fun v => hout (.const v) rfl
          have ofn : ∀ f, ρ (.func f) = .func (.func f) #[] #[] := fun f => hout (.func f) rfl
          clear hdep hout
          refine .inl ⟨rfl, ?_⟩
          show GivesP _ _ _ (fun v _ => v = .bool (!f)) _
          refine GivesP.val (.bool (!f)) rfl ?_
          go_simp
        rcases i with _ | i
        · obtain rfl := Option.some.inj ho
          have e7 : ρ (.tmp 43) = .bool (!f) := (hdep ⟨7, .data⟩ (by simp) rfl 43 rfl).1
          have ocn : ∀ v, ρ (.const v) = v := fun v => hout (.const v) rfl
          have ofn : ∀ f, ρ (.func f) = .func (.func f) #[] #[] := fun f => hout (.func f) rfl
          clear hdep hout
          refine .inl ⟨rfl, ?_⟩
          show GivesP _ _ _ (fun v _ => v = .bool (!f)) _
          refine GivesP.val (.bool (!f)) rfl ?_
          go_simp
        cases ho
      case last =>
        intro U z hBx hV
        have e8 : U 8 = .bool (!f) := hV 8 (by simp)
        clear hV
        have hBf := HK.out.trans (hBx.mono HK.out.size)
        rw [e8]
        go_wp2_with fail
        go_ret
        exact ⟨retBool HF.out.symm, hBf⟩
    · obtain ⟨hr0, hr2⟩ := r12 rfl
      obtain ⟨r, rfl⟩ : ∃ r : Nat, B = r := ⟨B.toNat, by omega⟩
      have hri : (r : Int) < 3 := by omega
      have hr3 : r < 3 := by omega
      obtain ⟨s1, s2, s3, hSe⟩ : ∃ s1 s2 s3, L.getD r noSp = (s1, s2, s3) := ⟨_, _, _, rfl⟩
      obtain ⟨f, hf⟩ : ∃ f, inF s1 s2 s3 true 0 2 = f := ⟨_, rfl⟩
      have HF : Hid (mayF (12, A, (r : Int), C) L = !f) := by show mayF _ _ = _; simp [mayF]; rw [← hf]; simp [List.getD] at hSe; simp [hSe]
      have HI : Hid (∀ z : World, Calls Try.prog 123 #[.agg #[.bool s1, .int .i64 s2, .int .i64 s3], .agg #[.bool true, .int .i64 0, .int .i64 2]] z fun e w' => e = .returned (.bool f) ∧ Below z.heap.size z w') := fun z => by have := in_impl s1 s2 s3 true 0 2 z; rw [hf] at this; exact this
      have HS0 : Hid (Spn x0 g (o + r * 3) (s1, s2, s3)) := by have := HQ.out.2 r hr3; rw [hSe] at this; exact this
      clear HQ r4 r10 r11 r12 h1 h2 hr0 hr2 hSe hf
      simp only [ifcF]
      have HK : Hid (Below x0.heap.size x0 (x0.alloc (.cells #[.int .i64 A, .int .i64 (r : Int)] 169))) := (Below.refl _ _).alloc (Nat.le_refl _) _
      have HB0 : Hid ((x0.alloc (.cells #[.int .i64 A, .int .i64 (r : Int)] 169)).cell? ⟨x0.heap.size, 1, none⟩ = some (.int .i64 r) ∧ x0.heap.size < (x0.alloc (.cells #[.int .i64 A, .int .i64 (r : Int)] 169)).heap.size) := ⟨by simp [go_sem], by simp⟩
      go_enter Try.func91, Try.ntmps91
      go_wp2_with fail
      generalize x0.alloc (.cells #[.int .i64 A, .int .i64 (r : Int)] 169) = X at HK HB0 ⊢
      refine wp_region_preds (by kernel_rfl) (by kernel_rfl) (by kernel_rfl) (by kernel_rfl) (fun j => [(fun v _ => v = .slice (some ⟨g, o, none⟩) 3 cap), (fun v _ => v = .pointer (some ⟨x0.heap.size, 1, none⟩)), (fun v _ => v = .int .i64 r), (fun v _ => v = .pointer (some ⟨g, o + r * 3, none⟩)), (fun v _ => v = .agg #[.bool s1, .int .i64 s2, .int .i64 s3]), (fun v _ => v = .agg #[.bool true, .int .i64 0, .int .i64 2]), (fun v _ => v = .bool f), (fun v _ => v = .bool (!f)), (fun v _ => v = .bool (!f))].getD j (fun _ _ => True)) ?stable X ((Below.refl _ _).drew) ?step (fun U => ⟨List.toArray ((.iface 169 (.agg #[.int .i64 A, .int .i64 ↑r])) :: (.slice (some ⟨g, o, none⟩) 3 cap) :: (undef) :: (undef) :: (U 8) :: (undef) :: (undef) :: (undef) :: (.pointer (some ⟨x0.heap.size, 0, none⟩)) :: (.iface 169 (.agg #[.int .i64 A, .int .i64 ↑r])) :: (.tuple #[.agg #[.int .i64 0, .int .i64 0, .int .i64 0], .bool false]) :: (.bool false) :: (.agg #[.int .i64 0, .int .i64 0, .int .i64 0]) :: (undef) :: (undef) :: (undef) :: (undef) :: (undef) :: (undef) :: (undef) :: (undef) :: (undef) :: (undef) :: (undef) :: (.tuple #[.agg #[.int .i64 0], .bool false]) :: (.bool false) :: (.agg #[.int .i64 0]) :: (undef) :: (undef) :: (undef) :: (undef) :: (undef) :: (undef) :: (.tuple #[.agg #[.int .i64 0, .int .i64 0], .bool false]) :: (.bool false) :: (.agg #[.int .i64 0, .int .i64 0]) :: (undef) :: (undef) :: (undef) :: (undef) :: (undef) :: (undef) :: (undef) :: (undef) :: (.tuple #[.agg #[.int .i64 A, .int .i64 ↑r], .bool true]) :: (.bool true) :: (.agg #[.int .i64 A, .int .i64 ↑r]) :: (U 0) :: (U 1) :: (U 2) :: (U 3) :: (U 4) :: (U 5) :: (U 6) :: (U 7) :: []), []⟩) (fun U => by kernel_rfl) ?last
      case stable =>
        intro i v x y ht hb
        rcases i with _ | i
        · exact ht
        rcases i with _ | i
        · exact ht
        rcases i with _ | i
        · exact ht
        rcases i with _ | i
        · exact ht
        rcases i with _ | i
        · exact ht
        rcases i with _ | i
        · exact ht
        rcases i with _ | i
        · exact ht
        rcases i with _ | i
        · exact ht
        rcases i with _ | i
        · exact ht
        exact trivial
      case step =>
        intro i o ho ρ y x hBx hdep hout
        rcases i with _ | i
        · obtain rfl := Option.some.inj ho
          have o1 : ρ (.tmp 1) = .slice (some ⟨g, o, none⟩) 3 cap := hout (.tmp 1) rfl
          have ocn : ∀ v, ρ (.const v) = v := fun v => hout (.const v) rfl
          have ofn : ∀ f, ρ (.func f) = .func (.func f) #[] #[] := fun f => hout (.func f) rfl
          clear hdep hout
          refine .inl ⟨rfl, ?_⟩
          show GivesP _ _ _ (fun v _ => v = .slice (some ⟨g, o, none⟩) 3 cap) _
          refine GivesP.val (.slice (some ⟨g, o, none⟩) 3 cap) rfl ?_
          go_simp
        rcases i with _ | i
        · obtain rfl := Option.some.inj ho
          have o8 : ρ (.tmp 8) = .pointer (some ⟨x0.heap.size, 0, none⟩) := hout (.tmp 8) rfl
          have ocn : ∀ v, ρ (.const v) = v := fun v => hout (.const v) rfl
          have ofn : ∀ f, ρ (.func f) = .func (.func f) #[] #[] := fun f => hout (.func f) rfl
          clear hdep hout
          refine .inl ⟨rfl, ?_⟩
          show GivesP _ _ _ (fun v _ => v = .pointer (some ⟨x0.heap.size, 1, none⟩)) _
          refine GivesP.val (.pointer (some ⟨x0.heap.size, 1, none⟩)) rfl ?_
          go_simp
        rcases i with _ | i
        · obtain rfl := Option.some.inj ho
          have e1 : ρ (.tmp 48) = .pointer (some ⟨x0.heap.size, 1, none⟩) := (hdep ⟨1, .data⟩ (by simp) rfl 48 rfl).1
          have ocn : ∀ v, ρ (.const v) = v := fun v => hout (.const v) rfl
          have ofn : ∀ f, ρ (.func f) = .func (.func f) #[] #[] := fun f => hout (.func f) rfl
          clear hdep hout
          refine .inl ⟨rfl, ?_⟩
          have hgX : g < X.heap.size := Nat.lt_of_lt_of_le hg HK.out.size
          obtain ⟨q0, q1, q2⟩ := (HS0.out.later HK.out hg).later hBx hgX
          have p0 := (hBx.cell (p := ⟨x0.heap.size, 1, none⟩) HB0.out.2).trans HB0.out.1
          simp only at q0 q1 q2
          show GivesP _ _ _ (fun v _ => v = .int .i64 r) _
          refine GivesP.val (.int .i64 r) rfl ?_
          go_simp
        rcases i with _ | i
        · obtain rfl := Option.some.inj ho
          have e0 : ρ (.tmp 47) = .slice (some ⟨g, o, none⟩) 3 cap := (hdep ⟨0, .data⟩ (by simp) rfl 47 rfl).1
          have e2 : ρ (.tmp 49) = .int .i64 r := (hdep ⟨2, .data⟩ (by simp) rfl 49 rfl).1
          have ocn : ∀ v, ρ (.const v) = v := fun v => hout (.const v) rfl
          have ofn : ∀ f, ρ (.func f) = .func (.func f) #[] #[] := fun f => hout (.func f) rfl
          clear hdep hout
          refine .inl ⟨rfl, ?_⟩
          show GivesP _ _ _ (fun v _ => v = .pointer (some ⟨g, o + r * 3, none⟩)) _
          refine GivesP.val (.pointer (some ⟨g, o + r * 3, none⟩)) rfl ?_
          go_simp
        rcases i with _ | i
        · obtain rfl := Option.some.inj ho
          have e3 : ρ (.tmp 50) = .pointer (some ⟨g, o + r * 3, none⟩) := (hdep ⟨3, .data⟩ (by simp) rfl 50 rfl).1
          have ocn : ∀ v, ρ (.const v) = v := fun v => hout (.const v) rfl
          have ofn : ∀ f, ρ (.func f) = .func (.func f) #[] #[] := fun f => hout (.func f) rfl
          clear hdep hout
          refine .inl ⟨rfl, ?_⟩
          have hgX : g < X.heap.size := Nat.lt_of_lt_of_le hg HK.out.size
          obtain ⟨q0, q1, q2⟩ := (HS0.out.later HK.out hg).later hBx hgX
          have p0 := (hBx.cell (p := ⟨x0.heap.size, 1, none⟩) HB0.out.2).trans HB0.out.1
          simp only at q0 q1 q2
          show GivesP _ _ _ (fun v _ => v = .agg #[.bool s1, .int .i64 s2, .int .i64 s3]) _
          refine GivesP.val (.agg #[.bool s1, .int .i64 s2, .int .i64 s3]) rfl ?_
          go_simp
        rcases i with _ | i
        · obtain rfl := Option.some.inj ho
          have ocn : ∀ v, ρ (.const v) = v := fun v => hout (.const v) rfl
          have ofn : ∀ f, ρ (.func f) = .func (.func f) #[] #[] := fun f => hout (.func f) rfl
          clear hdep hout
          refine .inl ⟨rfl, ?_⟩
          show GivesP _ _ _ (fun v _ => v = .agg #[.bool true, .int .i64 0, .int .i64 2]) _
          refine GivesP.call ((cellNumbers_any x).mono fun e w9 h9 => ⟨_, h9.1, rfl, h9.2⟩) ?_
          go_simp
        rcases i with _ | i
        · obtain rfl := Option.some.inj ho
          have e4 : ρ (.tmp 51) = .agg #[.bool s1, .int .i64 s2, .int .i64 s3] := (hdep ⟨4, .data⟩ (by simp) rfl 51 rfl).1
          have e5 : ρ (.tmp 52) = .agg #[.bool true, .int .i64 0, .int .i64 2] := (hdep ⟨5, .data⟩ (by simp) rfl 52 rfl).1
          have ocn : ∀ v, ρ (.const v) = v := fun v => hout (.const v) rfl
          have ofn : ∀ f, ρ (.func f) = .func (.func f) #[] #[] := fun f => hout (.func f) rfl
          clear hdep hout
          refine .inl ⟨rfl, ?_⟩
          show GivesP _ _ _ (fun v _ => v = .bool f) _
          refine GivesP.call ((HI.out x).mono fun e w9 h9 => ⟨_, h9.1, rfl, h9.2⟩) ?_
          go_simp
        rcases i with _ | i
        · obtain rfl := Option.some.inj ho
          have e6 : ρ (.tmp 53) = .bool f := (hdep ⟨6, .data⟩ (by simp) rfl 53 rfl).1
          have ocn : ∀ v, ρ (.const v) = v := fun v => hout (.const v) rfl
          have ofn : ∀ f, ρ (.func f) = .func (.func f) #[] #[] := fun f => hout (.func f) rfl
          clear hdep hout
          refine .inl ⟨rfl, ?_⟩
          show GivesP _ _ _ (fun v _ => v = .bool (!f)) _
          refine GivesP.val (.bool (!f)) rfl ?_
          go_simp
        rcases i with _ | i
        · obtain rfl := Option.some.inj ho
          have e7 : ρ (.tmp 54) = .bool (!f) := (hdep ⟨7, .data⟩ (by simp) rfl 54 rfl).1
          have ocn : ∀ v, ρ (.const v) = v := fun v => hout (.const v) rfl
          have ofn : ∀ f, ρ (.func f) = .func (.func f) #[] #[] := fun f => hout (.func f) rfl
          clear hdep hout
          refine .inl ⟨rfl, ?_⟩
          show GivesP _ _ _ (fun v _ => v = .bool (!f)) _
          refine GivesP.val (.bool (!f)) rfl ?_
          go_simp
        cases ho
      case last =>
        intro U z hBx hV
        have e8 : U 8 = .bool (!f) := hV 8 (by simp)
        clear hV
        have hBf := HK.out.trans (hBx.mono HK.out.size)
        rw [e8]
        go_wp2_with fail
        go_ret
        exact ⟨retBool HF.out.symm, hBf⟩
  · obtain rfl | rfl | rfl | rfl | rfl | rfl | rfl | rfl : K = 1 ∨ K = 2 ∨ K = 3 ∨ K = 5 ∨ K = 6 ∨ K = 7 ∨ K = 8 ∨ K = 9 := by omega
    all_goals
      clear h1 h2 r4 r10 r11 r12 hk HQ
      simp only [ifcF]
      go_enter Try.func91, Try.ntmps91
      go_wp2_with fail
      go_ret
      exact ⟨retBool (by simp [mayF]), by go_grown⟩

end Go.Proofs.Ytifpijindmdboaa
