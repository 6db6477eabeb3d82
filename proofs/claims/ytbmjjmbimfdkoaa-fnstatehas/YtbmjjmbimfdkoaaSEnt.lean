/-
  The program's StateEntry: what it hands back at any number.
-/
import Derived.Test.YtbmjjmbimfdkoaaSRep
import Derived.Test.YtbmjjmbimfdkoaaKind
import Derived.Test.YtbmjjmbimfdkoaaWideN
namespace Go.Proofs.Ytbmjjmbimfdkoaa
open Go.RowKit
set_option linter.unusedVariables false
set_option linter.unusedSimpArgs false

/-- the state in which a call with words of a kind begins -/
def entF (k : Int) : St := if (kindF k).1 = true then (true, [kindF k, (true, 0, 0), (true, 0, 0)], (true, 0, 0)) else noSt
theorem entF_no {k l u : Int} (h : kindF k = (false, l, u)) : entF k = noSt := by unfold entF; rw [h]; simp
theorem entF_yes {k l u : Int} (h : kindF k = (true, l, u)) : entF k = (true, [(true, l, u), (true, 0, 0), (true, 0, 0)], (true, 0, 0)) := by unfold entF; rw [h]; simp
def EntAt (k : Int) (x : World) (e : Ending) (y : World) : Prop :=
  ∃ v, e = .returned (.agg #[.bool (entF k).1, v, .bool (entF k).2.2.1, .int .i64 (entF k).2.2.2.1, .int .i64 (entF k).2.2.2.2]) ∧ SpsAt true y x.heap.size y.heap.size v (entF k).2.1 ∧ Below x.heap.size x y
theorem spn_new (x : World) (a : Bool) (l u : Int) (t : TypeId) : Spn (x.alloc (.cells #[.bool a, .int .i64 l, .int .i64 u] t)) x.heap.size 0 (a, l, u) := ⟨by simp [go_sem], by simp [go_sem], by simp [go_sem]⟩

set_option maxHeartbeats 2000000 in
theorem ent_impl (k : Int) (x : World) : Calls Try.prog 21 #[.int .i64 k] x fun e y => EntAt k x e y := by
  go_enter Try.func21, Try.ntmps21
  go_wp2_with fail
  refine (kind_impl k _).mono ?_
  rintro e w1 ⟨hs, hb1⟩
  obtain ⟨a, l, u, hx, rfl⟩ := hs.out
  have R0 := (Bx5.new x (.bool false) (.slice none 0 0) (.bool false) (.int .i64 0) (.int .i64 0) 32).later hb1
  have hz1 : x.heap.size + 1 ≤ w1.heap.size := by have := hb1.size; simpa using this
  have hB1 : Below x.heap.size x w1 := ((Below.refl x.heap.size x).alloc (Nat.le_refl _) _).trans (hb1.mono (by simp))
  clear hb1 hs
  cases a
  · obtain ⟨rl, r0, r1, r2, r3, r4, rf⟩ := R0
    go_wp2_with fail
    refine bodyPost_ret (v := .agg #[.bool false, .slice none 0 0, .bool false, .int .i64 0, .int .i64 0]) (by simp [results, Try.results21, go_sem, rl, r0, r1, r2, r3, r4, rf]) rfl ?_
    unfold EntAt
    rw [entF_no hx.out]
    refine ⟨_, rfl, SpsAt.nil, ?_⟩
    refine Below.alloc ?_ (by simp <;> omega) _
    repeat (refine Below.setCell ?_ (by simp <;> omega) _)
    exact hB1
  · have R1 := R0.alloc (.cells #[.bool true, .int .i64 l, .int .i64 u] 30)
    have A1 := spn_new w1 true l u 30
    have hB2 : Below x.heap.size x (w1.alloc (.cells #[.bool true, .int .i64 l, .int .i64 u] 30)) := hB1.alloc (by omega) _
    have HB2 : Hid (Below x.heap.size x (w1.alloc (.cells #[.bool true, .int .i64 l, .int .i64 u] 30))) := hB2
    have HR1 : Hid (Bx5 (w1.alloc (.cells #[.bool true, .int .i64 l, .int .i64 u] 30)) x.heap.size (.bool false) (.slice none 0 0) (.bool false) (.int .i64 0) (.int .i64 0)) := R1
    have HA1 : Hid (Spn (w1.alloc (.cells #[.bool true, .int .i64 l, .int .i64 u] 30)) w1.heap.size 0 (true, l, u)) := A1
    clear hB2 R1 A1
    obtain ⟨rl, r0, r1, r2, r3, r4, rf⟩ := R0
    go_wp2_with fail
    clear rl r0 r1 r2 r3 r4 rf
    refine (of_at (n := 0) rfl _).mono ?_
    rintro e w2 ⟨rfl, hb2⟩
    have R2 := HR1.out.later hb2
    have A2 := HA1.out.later hb2 (by simp)
    have hB2 : Below x.heap.size x w2 := HB2.out.trans (hb2.mono (by simp; omega))
    have hz2 : w1.heap.size + 1 ≤ w2.heap.size := by have := hb2.size; simpa using this
    clear HB2 HR1 HA1 hb2 hB1
    have R3 : Hid (Bx5 (w2.alloc (.cells #[.bool true, .int .i64 0, .int .i64 0] 30)) x.heap.size (.bool false) (.slice none 0 0) (.bool false) (.int .i64 0) (.int .i64 0)) := R2.alloc _
    have A3 : Hid (Spn (w2.alloc (.cells #[.bool true, .int .i64 0, .int .i64 0] 30)) w1.heap.size 0 (true, l, u)) := A2.later ((Below.refl _ _).alloc (Nat.le_refl _) _) (by omega)
    have B3 : Hid (Below x.heap.size x (w2.alloc (.cells #[.bool true, .int .i64 0, .int .i64 0] 30))) := hB2.alloc (by omega) _
    have Z3 : Hid (Spn (w2.alloc (.cells #[.bool true, .int .i64 0, .int .i64 0] 30)) w2.heap.size 0 (true, 0, 0)) := spn_new _ _ _ _ _
    clear R2 A2 hB2
    go_wp2_with fail
    refine (rep_any _ _ _ _ (true, 0, 0) Z3.out (by simp)).mono ?_
    rintro e w3 ⟨rfl, hR, hb3⟩
    have hs3 : (w2.alloc (.cells #[.bool true, .int .i64 0, .int .i64 0] 30)).heap.size = w2.heap.size + 1 := by simp
    have R4 := R3.out.later hb3
    have A4 := A3.out.later hb3 (by simp; omega)
    have hB4 : Below x.heap.size x w3 := B3.out.trans (hb3.mono (by simp; omega))
    rw [hs3] at hR
    have hz3 : w2.heap.size + 1 < w3.heap.size := hR.lt
    simp only [hs3]
    clear R3 A3 B3 Z3 hb3
    have HR : Hid (Rep w3 (w2.heap.size + 1) 3 (true, 0, 0)) := hR
    have HR4 : Hid (Bx5 w3 x.heap.size (.bool false) (.slice none 0 0) (.bool false) (.int .i64 0) (.int .i64 0)) := R4
    have a0 : w3.cell? ⟨w1.heap.size, 0, none⟩ = some (.bool true) := A4.c0
    have a1 : w3.cell? ⟨w1.heap.size, 1, none⟩ = some (.int .i64 l) := by simpa using A4.c1
    have a2 : w3.cell? ⟨w1.heap.size, 2, none⟩ = some (.int .i64 u) := by simpa using A4.c2
    have q0 : w3.cell? ⟨w2.heap.size + 1, 0, none⟩ = some (.bool true) := by simpa using (hR.got 0 (by omega)).c0
    have q1 : w3.cell? ⟨w2.heap.size + 1, 1, none⟩ = some (.int .i64 0) := by simpa using (hR.got 0 (by omega)).c1
    have q2 : w3.cell? ⟨w2.heap.size + 1, 2, none⟩ = some (.int .i64 0) := by simpa using (hR.got 0 (by omega)).c2
    have f0 : w3.frozen? ⟨w2.heap.size + 1, 0, none⟩ = false := hR.fz _
    have f1 : w3.frozen? ⟨w2.heap.size + 1, 1, none⟩ = false := hR.fz _
    have f2 : w3.frozen? ⟨w2.heap.size + 1, 2, none⟩ = false := hR.fz _
    clear hR R4 A4 hs3
    generalize hb : w2.heap.size + 1 = b at *
    go_wp2_with fail
    refine (of_at (n := 0) rfl _).mono ?_
    rintro e w4 ⟨rfl, hb4⟩
    change Below (set3 w3 b 0 (.bool true) (.int .i64 l) (.int .i64 u)).heap.size (set3 w3 b 0 (.bool true) (.int .i64 l) (.int .i64 u)) w4 at hb4
    have hS : SpsAt true (set3 w3 b 0 (.bool true) (.int .i64 l) (.int .i64 u)) (x.heap.size + 1) w3.heap.size (.slice (some ⟨b, 0, none⟩) 3 3) [(true, l, u), (true, 0, 0), (true, 0, 0)] := by
      refine ⟨some ⟨b, 0, none⟩, 3, rfl, by unfold maxLen; simp, .inr ⟨b, 0, rfl, by omega, hz3, by rw [set3_size]; exact Nat.le_refl _, fun _ k => (set3_frozen _ _ _ _ _ _ _).trans (HR.out.fz k), fun j hj => ?_⟩⟩
      match j, hj with
      | 0, _ => exact set3_hit w3 b 0 (true, l, u) ⟨_, q0⟩ ⟨_, q1⟩ ⟨_, q2⟩
      | 1, _ =>
        obtain ⟨r0, r1, r2⟩ := HR.out.got 1 (by omega)
        exact ⟨(set3_miss _ _ _ _ _ _ _ _ (by omega)).trans r0, (set3_miss _ _ _ _ _ _ _ _ (by omega)).trans r1, (set3_miss _ _ _ _ _ _ _ _ (by omega)).trans r2⟩
      | 2, _ =>
        obtain ⟨r0, r1, r2⟩ := HR.out.got 2 (by omega)
        exact ⟨(set3_miss _ _ _ _ _ _ _ _ (by omega)).trans r0, (set3_miss _ _ _ _ _ _ _ _ (by omega)).trans r1, (set3_miss _ _ _ _ _ _ _ _ (by omega)).trans r2⟩
      | j + 3, hj => exact absurd hj (by simp)
    have hS4 : Hid (SpsAt true w4 (x.heap.size + 1) w3.heap.size (.slice (some ⟨b, 0, none⟩) 3 3) [(true, l, u), (true, 0, 0), (true, 0, 0)]) := hS.later hb4
    have hne : b ≠ x.heap.size := by omega
    have R5 : Bx5 w4 x.heap.size (.bool false) (.slice none 0 0) (.bool false) (.int .i64 0) (.int .i64 0) := Bx5.later (x := set3 w3 b 0 (.bool true) (.int .i64 l) (.int .i64 u)) (((HR4.out.off hne).off hne).off hne) hb4
    have hB5 : Below x.heap.size x w4 := (set3_below hB4 (by omega)).trans (hb4.mono (by rw [set3_size]; omega))
    have hz5 : w3.heap.size ≤ w4.heap.size := by have := hb4.size; rwa [set3_size] at this
    clear hS hb4 HR4 HR a0 a1 a2 q0 q1 q2 f0 f1 f2 hB4
    obtain ⟨rl, r0, r1, r2, r3, r4, rf⟩ := R5
    go_wp2_with fail
    refine bodyPost_ret (v := .agg #[.bool true, .slice (some ⟨b, 0, none⟩) 3 3, .bool true, .int .i64 0, .int .i64 0]) (by simp [results, Try.results21, go_sem, rl, r0, r1, r2, r3, r4, rf]) rfl ?_
    unfold EntAt
    rw [entF_yes hx.out]
    refine ⟨_, rfl, ?_, ?_⟩
    · refine SpsAt.wide (B := x.heap.size + 1) (E := w3.heap.size) ?_ (by omega) (by simp; omega) (by simp)
      repeat (refine SpsAt.off ?_ (by omega))
      exact hS4.out
    · repeat (refine Below.setCell ?_ (by simp <;> omega) _)
      exact hB5

end Go.Proofs.Ytbmjjmbimfdkoaa
