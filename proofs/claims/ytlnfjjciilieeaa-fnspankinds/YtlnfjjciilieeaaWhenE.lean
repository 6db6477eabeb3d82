/-
  Both SpanWhen answer the same at every op, every two spans, yes and no.
-/
import Derived.Test.YtlnfjjciilieeaaWhenTy
import Derived.Test.YtlnfjjciilieeaaWhenTn
import Derived.Test.YtlnfjjciilieeaaWhenI5
import Derived.Test.YtlnfjjciilieeaaWhenI6
namespace Go.Proofs.Ytlnfjjciilieeaa
open Go.RowKit
set_option linter.unusedVariables false
set_option linter.unusedSimpArgs false

theorem when_out {op : Int} {a b : Bool} {al ah bl bh : Int} {yes : Bool} (h : bothF a al ah b bl bh = false ∨ (op ≠ 5 ∧ op ≠ 6)) : WhenIs op a al ah b bl bh yes noSp noSp := by
  refine ⟨fun _ => ⟨rfl, rfl⟩, fun h1 h2 => ?_⟩
  rcases h with h | h
  · simp [h1] at h
  · omega

set_option maxHeartbeats 2000000 in
theorem when_spec_out (op : Int) (a : Bool) (al ah : Int) (b : Bool) (bl bh : Int) (yes : Bool) (w : World) (h : bothF a al ah b bl bh = false ∨ (op ≠ 5 ∧ op ≠ 6)) :
    Calls Try.prog 11 #[.int .i64 op, .agg #[.bool a, .int .i64 al, .int .i64 ah], .agg #[.bool b, .int .i64 bl, .int .i64 bh], .bool yes] w fun e w' => WhRet op a al ah b bl bh yes w e w' := by
  have HD : Hid (WhenIs op a al ah b bl bh yes noSp noSp) := when_out h
  have hpa := both_parts a al ah b bl bh
  cases ha : (a && okF a al ah)
  · have HA : Hid ((a && okF a al ah) = false) := ha
    clear ha h hpa
    go_enter Try.func11, Try.ntmps11
    go_wp2_with fail
    refine (l1Some_any _ _ _ _).mono ?_
    rintro e w1 ⟨rfl, hr1⟩
    have sb1 : Sp3 w1 (w.heap.size + 1) b bl bh := Sp3.later ⟨by go_size, by simp [go_sem], by simp [go_sem], by simp [go_sem], by simp [go_sem], by simp [go_sem], by simp [go_sem]⟩ hr1
    have ra1 : Sp3 w1 (w.heap.size + 1 + 1) false 0 0 := Sp3.later ⟨by go_size, by simp [go_sem], by simp [go_sem], by simp [go_sem], by simp [go_sem], by simp [go_sem], by simp [go_sem]⟩ hr1
    have rb1 : Sp3 w1 (w.heap.size + 1 + 1 + 1) false 0 0 := Sp3.later ⟨by go_size, by simp [go_sem], by simp [go_sem], by simp [go_sem], by simp [go_sem], by simp [go_sem], by simp [go_sem]⟩ hr1
    have hB1 : Below w.heap.size w w1 := Below.trans (by go_grown) (hr1.mono (by go_size))
    clear hr1
    rw [HA.out]
    obtain ⟨n1, c10, c11, c12, f10, f11, f12⟩ := id ra1
    obtain ⟨n2, c20, c21, c22, f20, f21, f22⟩ := id rb1
    have hB := hB1
    go_wp2_with fail
    refine bodyPost_ret (v := .tuple #[.agg #[.bool false, .int .i64 0, .int .i64 0], .agg #[.bool false, .int .i64 0, .int .i64 0]]) (by simp [results, Try.results11, go_sem, n1, n2, c10, c11, c12, c20, c21, c22]) rfl ⟨noSp, noSp, HD.out, rfl, ?_⟩
    exact (((((hB.setCell (by simp; omega) _).setCell (by simp; omega) _).setCell (by simp; omega) _).setCell (by simp; omega) _).setCell (by simp; omega) _).setCell (by simp; omega) _
  · have HA : Hid ((a && okF a al ah) = true) := ha
    cases hb : (b && okF b bl bh)
    · have HB : Hid ((b && okF b bl bh) = false) := hb
      clear ha hb h hpa
      go_enter Try.func11, Try.ntmps11
      go_wp2_with fail
      refine (l1Some_any _ _ _ _).mono ?_
      rintro e w1 ⟨rfl, hr1⟩
      have sb1 : Sp3 w1 (w.heap.size + 1) b bl bh := Sp3.later ⟨by go_size, by simp [go_sem], by simp [go_sem], by simp [go_sem], by simp [go_sem], by simp [go_sem], by simp [go_sem]⟩ hr1
      have ra1 : Sp3 w1 (w.heap.size + 1 + 1) false 0 0 := Sp3.later ⟨by go_size, by simp [go_sem], by simp [go_sem], by simp [go_sem], by simp [go_sem], by simp [go_sem], by simp [go_sem]⟩ hr1
      have rb1 : Sp3 w1 (w.heap.size + 1 + 1 + 1) false 0 0 := Sp3.later ⟨by go_size, by simp [go_sem], by simp [go_sem], by simp [go_sem], by simp [go_sem], by simp [go_sem], by simp [go_sem]⟩ hr1
      have hB1 : Below w.heap.size w w1 := Below.trans (by go_grown) (hr1.mono (by go_size))
      clear hr1
      rw [HA.out]
      obtain ⟨nB, cB0, cB1, cB2, fB0, fB1, fB2⟩ := id sb1
      go_wp2_with fail
      refine (l1Some_any _ _ _ _).mono ?_
      rintro e w2 ⟨rfl, hr2⟩
      have ra2 := ra1.later hr2
      have rb2 := rb1.later hr2
      have hB2 := hB1.trans (hr2.mono hB1.size)
      clear sb1 ra1 rb1 hB1 hr2 nB cB0 cB1 cB2 fB0 fB1 fB2
      rw [HB.out]
      obtain ⟨n1, c10, c11, c12, f10, f11, f12⟩ := id ra2
      obtain ⟨n2, c20, c21, c22, f20, f21, f22⟩ := id rb2
      have hB := hB2
      go_wp2_with fail
      refine bodyPost_ret (v := .tuple #[.agg #[.bool false, .int .i64 0, .int .i64 0], .agg #[.bool false, .int .i64 0, .int .i64 0]]) (by simp [results, Try.results11, go_sem, n1, n2, c10, c11, c12, c20, c21, c22]) rfl ⟨noSp, noSp, HD.out, rfl, ?_⟩
      exact (((((hB.setCell (by simp; omega) _).setCell (by simp; omega) _).setCell (by simp; omega) _).setCell (by simp; omega) _).setCell (by simp; omega) _).setCell (by simp; omega) _
    · have HB : Hid ((b && okF b bl bh) = true) := hb
      rw [ha, hb] at hpa
      have ho : op ≠ 5 ∧ op ≠ 6 := by rcases h with h | h
                                      · rw [hpa] at h; simp at h
                                      · exact h
      have ho5 : (op == 5) = false := by simp [ho.1]
      have ho6 : (op == 6) = false := by simp [ho.2]
      have hn5 : (op != 5) = true := by simp [ho.1]
      have hn6 : (op != 6) = true := by simp [ho.2]
      clear ha hb h hpa ho
      go_enter Try.func11, Try.ntmps11
      go_wp2_with fail
      refine (l1Some_any _ _ _ _).mono ?_
      rintro e w1 ⟨rfl, hr1⟩
      have sb1 : Sp3 w1 (w.heap.size + 1) b bl bh := Sp3.later ⟨by go_size, by simp [go_sem], by simp [go_sem], by simp [go_sem], by simp [go_sem], by simp [go_sem], by simp [go_sem]⟩ hr1
      have ra1 : Sp3 w1 (w.heap.size + 1 + 1) false 0 0 := Sp3.later ⟨by go_size, by simp [go_sem], by simp [go_sem], by simp [go_sem], by simp [go_sem], by simp [go_sem], by simp [go_sem]⟩ hr1
      have rb1 : Sp3 w1 (w.heap.size + 1 + 1 + 1) false 0 0 := Sp3.later ⟨by go_size, by simp [go_sem], by simp [go_sem], by simp [go_sem], by simp [go_sem], by simp [go_sem], by simp [go_sem]⟩ hr1
      have hB1 : Below w.heap.size w w1 := Below.trans (by go_grown) (hr1.mono (by go_size))
      clear hr1
      rw [HA.out]
      obtain ⟨nB, cB0, cB1, cB2, fB0, fB1, fB2⟩ := id sb1
      go_wp2_with fail
      refine (l1Some_any _ _ _ _).mono ?_
      rintro e w2 ⟨rfl, hr2⟩
      have ra2 := ra1.later hr2
      have rb2 := rb1.later hr2
      have hB2 := hB1.trans (hr2.mono hB1.size)
      clear sb1 ra1 rb1 hB1 hr2 nB cB0 cB1 cB2 fB0 fB1 fB2
      rw [HB.out]
      obtain ⟨n1, c10, c11, c12, f10, f11, f12⟩ := id ra2
      obtain ⟨n2, c20, c21, c22, f20, f21, f22⟩ := id rb2
      have hB := hB2
      go_wp2_with fail
      refine bodyPost_ret (v := .tuple #[.agg #[.bool false, .int .i64 0, .int .i64 0], .agg #[.bool false, .int .i64 0, .int .i64 0]]) (by simp [results, Try.results11, go_sem, n1, n2, c10, c11, c12, c20, c21, c22]) rfl ⟨noSp, noSp, HD.out, rfl, ?_⟩
      exact (((((hB.setCell (by simp; omega) _).setCell (by simp; omega) _).setCell (by simp; omega) _).setCell (by simp; omega) _).setCell (by simp; omega) _).setCell (by simp; omega) _

set_option maxHeartbeats 2000000 in
theorem when_impl_out (op : Int) (a : Bool) (al ah : Int) (b : Bool) (bl bh : Int) (yes : Bool) (w : World) (h : bothF a al ah b bl bh = false ∨ (op ≠ 5 ∧ op ≠ 6)) :
    Calls Try.prog 13 #[.int .i64 op, .agg #[.bool a, .int .i64 al, .int .i64 ah], .agg #[.bool b, .int .i64 bl, .int .i64 bh], .bool yes] w fun e w' => WhRet op a al ah b bl bh yes w e w' := by
  have HD : Hid (WhenIs op a al ah b bl bh yes noSp noSp) := when_out h
  cases hbo : bothF a al ah b bl bh
  · have HB : Hid (bothF a al ah b bl bh = false) := hbo
    clear hbo h
    go_enter Try.func13, Try.ntmps13
    go_wp2_with fail
    refine (both_impl _ _ _ _ _ _ _).mono ?_
    rintro e w1 ⟨rfl, hr1⟩
    rw [HB.out]
    have ra1 : Sp3 w1 (w.heap.size + 1 + 1) false 0 0 := Sp3.later ⟨by go_size, by simp [go_sem], by simp [go_sem], by simp [go_sem], by simp [go_sem], by simp [go_sem], by simp [go_sem]⟩ hr1
    have rb1 : Sp3 w1 (w.heap.size + 1 + 1 + 1) false 0 0 := Sp3.later ⟨by go_size, by simp [go_sem], by simp [go_sem], by simp [go_sem], by simp [go_sem], by simp [go_sem], by simp [go_sem]⟩ hr1
    have sa1 : Sp3 w1 (w.heap.size + 1 + 1 + 1 + 1) false 0 0 := Sp3.later ⟨by go_size, by simp [go_sem], by simp [go_sem], by simp [go_sem], by simp [go_sem], by simp [go_sem], by simp [go_sem]⟩ hr1
    have sb1 : Sp3 w1 (w.heap.size + 1 + 1 + 1 + 1 + 1) false 0 0 := Sp3.later ⟨by go_size, by simp [go_sem], by simp [go_sem], by simp [go_sem], by simp [go_sem], by simp [go_sem], by simp [go_sem]⟩ hr1
    have hB : Below w.heap.size w w1 := Below.trans (by go_grown) (hr1.mono (by go_size))
    clear hr1
    obtain ⟨n1, c10, c11, c12, f10, f11, f12⟩ := ra1
    obtain ⟨n2, c20, c21, c22, f20, f21, f22⟩ := rb1
    obtain ⟨n3, c30, c31, c32, f30, f31, f32⟩ := sa1
    obtain ⟨n4, c40, c41, c42, f40, f41, f42⟩ := sb1
    go_wp2_with fail
    go_region
    all_goals
      go_wp2_with fail
      refine bodyPost_ret (v := .tuple #[.agg #[.bool false, .int .i64 0, .int .i64 0], .agg #[.bool false, .int .i64 0, .int .i64 0]]) (by simp [results, Try.results13, go_sem, n1, n2, c10, c11, c12, c20, c21, c22]) rfl ⟨noSp, noSp, HD.out, rfl, ?_⟩
      exact Below.drew ((((((hB.setCell (by simp; omega) _).setCell (by simp; omega) _).setCell (by simp; omega) _).setCell (by simp; omega) _).setCell (by simp; omega) _).setCell (by simp; omega) _)
  · have HB : Hid (bothF a al ah b bl bh = true) := hbo
    have ho : op ≠ 5 ∧ op ≠ 6 := by rcases h with h | h
                                    · rw [hbo] at h; simp at h
                                    · exact h
    have ho5 : (op == 5) = false := by simp [ho.1]
    have ho6 : (op == 6) = false := by simp [ho.2]
    have hn5 : (op != 5) = true := by simp [ho.1]
    have hn6 : (op != 6) = true := by simp [ho.2]
    clear hbo h ho
    go_enter Try.func13, Try.ntmps13
    go_wp2_with fail
    refine (both_impl _ _ _ _ _ _ _).mono ?_
    rintro e w1 ⟨rfl, hr1⟩
    rw [HB.out]
    have ra1 : Sp3 w1 (w.heap.size + 1 + 1) false 0 0 := Sp3.later ⟨by go_size, by simp [go_sem], by simp [go_sem], by simp [go_sem], by simp [go_sem], by simp [go_sem], by simp [go_sem]⟩ hr1
    have rb1 : Sp3 w1 (w.heap.size + 1 + 1 + 1) false 0 0 := Sp3.later ⟨by go_size, by simp [go_sem], by simp [go_sem], by simp [go_sem], by simp [go_sem], by simp [go_sem], by simp [go_sem]⟩ hr1
    have sa1 : Sp3 w1 (w.heap.size + 1 + 1 + 1 + 1) false 0 0 := Sp3.later ⟨by go_size, by simp [go_sem], by simp [go_sem], by simp [go_sem], by simp [go_sem], by simp [go_sem], by simp [go_sem]⟩ hr1
    have sb1 : Sp3 w1 (w.heap.size + 1 + 1 + 1 + 1 + 1) false 0 0 := Sp3.later ⟨by go_size, by simp [go_sem], by simp [go_sem], by simp [go_sem], by simp [go_sem], by simp [go_sem], by simp [go_sem]⟩ hr1
    have hB : Below w.heap.size w w1 := Below.trans (by go_grown) (hr1.mono (by go_size))
    clear hr1
    obtain ⟨n1, c10, c11, c12, f10, f11, f12⟩ := ra1
    obtain ⟨n2, c20, c21, c22, f20, f21, f22⟩ := rb1
    obtain ⟨n3, c30, c31, c32, f30, f31, f32⟩ := sa1
    obtain ⟨n4, c40, c41, c42, f40, f41, f42⟩ := sb1
    go_wp2_with fail
    go_region
    all_goals
      go_wp2_with fail
      refine bodyPost_ret (v := .tuple #[.agg #[.bool false, .int .i64 0, .int .i64 0], .agg #[.bool false, .int .i64 0, .int .i64 0]]) (by simp [results, Try.results13, go_sem, n1, n2, c10, c11, c12, c20, c21, c22]) rfl ⟨noSp, noSp, HD.out, rfl, ?_⟩
      exact Below.drew ((((((hB.setCell (by simp; omega) _).setCell (by simp; omega) _).setCell (by simp; omega) _).setCell (by simp; omega) _).setCell (by simp; omega) _).setCell (by simp; omega) _)

theorem when_spec (op : Int) (a : Bool) (al ah : Int) (b : Bool) (bl bh : Int) (yes : Bool) (w : World) :
    Calls Try.prog 11 #[.int .i64 op, .agg #[.bool a, .int .i64 al, .int .i64 ah], .agg #[.bool b, .int .i64 bl, .int .i64 bh], .bool yes] w fun e w' => WhRet op a al ah b bl bh yes w e w' := by
  by_cases h : bothF a al ah b bl bh = false ∨ (op ≠ 5 ∧ op ≠ 6)
  · exact when_spec_out op a al ah b bl bh yes w h
  · have hb : bothF a al ah b bl bh = true := by
      cases hb : bothF a al ah b bl bh
      · exact absurd (.inl hb) h
      · rfl
    have ho : op = 5 ∨ op = 6 := by
      have : ¬ (op ≠ 5 ∧ op ≠ 6) := fun h' => h (.inr h')
      omega
    obtain ⟨rfl, rfl, _⟩ := both_t hb
    rcases ho with rfl | rfl
    · cases yes
      · exact when_spec_5f al ah bl bh w hb
      · exact when_spec_5t al ah bl bh w hb
    · cases yes
      · exact when_spec_6f al ah bl bh w hb
      · exact when_spec_6t al ah bl bh w hb
theorem when_impl (op : Int) (a : Bool) (al ah : Int) (b : Bool) (bl bh : Int) (yes : Bool) (w : World) :
    Calls Try.prog 13 #[.int .i64 op, .agg #[.bool a, .int .i64 al, .int .i64 ah], .agg #[.bool b, .int .i64 bl, .int .i64 bh], .bool yes] w fun e w' => WhRet op a al ah b bl bh yes w e w' := by
  by_cases h : bothF a al ah b bl bh = false ∨ (op ≠ 5 ∧ op ≠ 6)
  · exact when_impl_out op a al ah b bl bh yes w h
  · have hb : bothF a al ah b bl bh = true := by
      cases hb : bothF a al ah b bl bh
      · exact absurd (.inl hb) h
      · rfl
    have ho : op = 5 ∨ op = 6 := by
      have : ¬ (op ≠ 5 ∧ op ≠ 6) := fun h' => h (.inr h')
      omega
    obtain ⟨rfl, rfl, _⟩ := both_t hb
    rcases ho with rfl | rfl
    · exact when_impl_5 al ah bl bh yes w hb
    · exact when_impl_6 al ah bl bh yes w hb

/-- both answer the same, whatever the world -/
theorem when_same (op : Int) (a : Bool) (al ah : Int) (b : Bool) (bl bh : Int) (yes : Bool) : ∃ j1 j2 j3 i1 i2 i3, Hid (∀ x : World, Calls Try.prog 11 #[.int .i64 op, .agg #[.bool a, .int .i64 al, .int .i64 ah], .agg #[.bool b, .int .i64 bl, .int .i64 bh], .bool yes] x fun e w' => e = .returned (.tuple #[.agg #[.bool j1, .int .i64 j2, .int .i64 j3], .agg #[.bool i1, .int .i64 i2, .int .i64 i3]]) ∧ Below x.heap.size x w') ∧ Hid (∀ x : World, Calls Try.prog 13 #[.int .i64 op, .agg #[.bool a, .int .i64 al, .int .i64 ah], .agg #[.bool b, .int .i64 bl, .int .i64 bh], .bool yes] x fun e w' => e = .returned (.tuple #[.agg #[.bool j1, .int .i64 j2, .int .i64 j3], .agg #[.bool i1, .int .i64 i2, .int .i64 i3]]) ∧ Below x.heap.size x w') := by
  by_cases h : ∃ s t, WhenIs op a al ah b bl bh yes s t
  · obtain ⟨s, t, hs⟩ := h
    refine ⟨s.1, s.2.1, s.2.2, t.1, t.2.1, t.2.2, fun x => (when_spec op a al ah b bl bh yes x).mono ?_, fun x => (when_impl op a al ah b bl bh yes x).mono ?_⟩
    · rintro e w' ⟨s', t', ht, he, hb⟩; obtain ⟨rfl, rfl⟩ := hs.uniq ht; exact ⟨he, hb⟩
    · rintro e w' ⟨s', t', ht, he, hb⟩; obtain ⟨rfl, rfl⟩ := hs.uniq ht; exact ⟨he, hb⟩
  · refine ⟨true, 0, 0, true, 0, 0, fun x => (when_spec op a al ah b bl bh yes x).mono ?_, fun x => (when_impl op a al ah b bl bh yes x).mono ?_⟩
    · rintro e w' ⟨s, t, ht, _⟩; exact absurd ⟨s, t, ht⟩ h
    · rintro e w' ⟨s, t, ht, _⟩; exact absurd ⟨s, t, ht⟩ h

end Go.Proofs.Ytlnfjjciilieeaa
