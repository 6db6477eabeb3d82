/-
  The contract of the program's RunNew.
-/
import Derived.Test.YtpogahhfdneagaaRNewB
namespace Go.Proofs.Ytpogahhfdneagaa
open Go.RowKit
set_option linter.unusedVariables false
set_option linter.unusedSimpArgs false


set_option maxRecDepth 100000 in
set_option maxHeartbeats 8000000 in
theorem runNew_impl (x0 : World) (B : Nat) (v : Value) (P : List (List I4)) (h : ProgAt x0 B v P) :
    Calls Try.prog 31 #[v] x0 fun e y => ∃ r, e = .returned r ∧ RunAt y x0.heap.size y.heap.size r (newF P) ∧ Below x0.heap.size x0 y := by
  have H : Hid (ProgAt x0 B v P) := h
  clear h
  go_enter Try.func31, Try.ntmps31
  go_wp2_with fail
  generalize hX : x0.alloc (.cells #[.slice none 0 0, .int .i64 0, .int .i64 0, .int .i64 0, .int .i64 0, .int .i64 0, .int .i64 0] 56) = X
  have HXB : Hid (Below x0.heap.size x0 X) := by show Below _ _ _; rw [← hX]; exact (Below.refl _ _).alloc (Nat.le_refl _) _
  have HX7 : Hid (Bx7 X x0.heap.size) := by show Bx7 _ _; rw [← hX]; exact Bx7.new _ _
  clear hX
  refine (progOk_impl X B v P (H.out.later HXB.out)).mono ?_
  rintro e y ⟨rfl, hb⟩
  have HY : Hid (Below x0.heap.size x0 y) := HXB.out.trans (hb.mono HXB.out.size)
  have HY7 : Hid (Bx7 y x0.heap.size) := HX7.out.later hb
  clear hb HXB HX7 H
  cases hok : progOkF P
  · obtain ⟨k0, k1, k2, k3, k4, k5, k6, k7, kf⟩ := HY7.out
    have kf0 := kf 0
    have kf1 := kf 1
    have kf2 := kf 2
    have kf3 := kf 3
    have kf4 := kf 4
    have kf5 := kf 5
    have kf6 := kf 6
    clear kf
    go_wp2_with fail
    refine bodyPost_ret (v := aggR (.slice none 0 0)) (by simp [results, Try.results31, go_sem, k1, k2, k3, k4, k5, k6, k7, aggR]) rfl ⟨_, rfl, by rw [newF_no hok]; exact ⟨_, _, rfl⟩, ?_⟩
    exact ((((((HY.out.setCell (by simp) _).setCell (by simp) _).setCell (by simp) _).setCell (by simp) _).setCell (by simp) _).setCell (by simp) _).setCell (by simp) _
  · go_wp2_with fail
    refine (begin_any y).mono ?_
    rintro e z ⟨r, rfl, ⟨ga, gb, rfl, h1, h2, h3, h4, hne, ha, hb, fa, fb⟩, hbz⟩
    have hxy : x0.heap.size < y.heap.size := HY7.out.lt
    have HR : Hid (RunAt (z.alloc (.cells #[.int .i64 0, .int .i64 0, .int .i64 0, .slice (some ⟨ga, 0, none⟩) 3 3, .slice (some ⟨gb, 0, none⟩) 3 3, .int .i64 0] 98)) (x0.heap.size + 1) (z.heap.size + 1) (aggR (.slice (some ⟨z.heap.size, 0, none⟩) 1 1)) (some fun _ => 0)) := RunAt.built z _ ga gb _ (by omega) (by omega) h3 h4 hne ha hb fa fb
    have hA : Below z.heap.size z (z.alloc (.cells #[.int .i64 0, .int .i64 0, .int .i64 0, .slice (some ⟨ga, 0, none⟩) 3 3, .slice (some ⟨gb, 0, none⟩) 3 3, .int .i64 0] 98)) := (Below.refl _ _).alloc (Nat.le_refl _) _
    have HZ : Hid (Below x0.heap.size x0 z) := HY.out.trans (hbz.mono HY.out.size)
    have HZ1 : Hid (Below x0.heap.size x0 (z.alloc (.cells #[.int .i64 0, .int .i64 0, .int .i64 0, .slice (some ⟨ga, 0, none⟩) 3 3, .slice (some ⟨gb, 0, none⟩) 3 3, .int .i64 0] 98))) := HZ.out.trans (hA.mono HZ.out.size)
    have hz0 := HY7.out.later hbz
    have HZ7 : Hid (Bx7 (z.alloc (.cells #[.int .i64 0, .int .i64 0, .int .i64 0, .slice (some ⟨ga, 0, none⟩) 3 3, .slice (some ⟨gb, 0, none⟩) 3 3, .int .i64 0] 98)) x0.heap.size) := hz0.later hA
    have ht := hz0.lt
    clear hz0
    have HSZ : Hid ((z.alloc (.cells #[.int .i64 0, .int .i64 0, .int .i64 0, .slice (some ⟨ga, 0, none⟩) 3 3, .slice (some ⟨gb, 0, none⟩) 3 3, .int .i64 0] 98)).heap.size = z.heap.size + 1) := by show _ = _; simp
    have hz1 := HZ7.out
    obtain ⟨k0, k1, k2, k3, k4, k5, k6, k7, kf⟩ := hz1
    have kf0 := kf 0
    have kf1 := kf 1
    have kf2 := kf 2
    have kf3 := kf 3
    have kf4 := kf 4
    have kf5 := kf 5
    have kf6 := kf 6
    clear hbz kf HY7 fa fb ha hb hA h1 h2 h3 h4 hne HZ HY ht hxy
    go_wp2_with fail
    clear k0 k1 k2 k3 k4 k5 k6 k7 kf0 kf1 kf2 kf3 kf4 kf5 kf6
    generalize z.alloc (.cells #[.int .i64 0, .int .i64 0, .int .i64 0, .slice (some ⟨ga, 0, none⟩) 3 3, .slice (some ⟨gb, 0, none⟩) 3 3, .int .i64 0] 98) = Z at HR HZ1 HZ7 HSZ ⊢
    have q := HZ7.out
    obtain ⟨_, q1, q2, q3, q4, q5, q6, q7, _⟩ := q
    have hm : x0.heap.size < x0.heap.size + 1 := by omega
    refine bodyPost_ret (v := aggR (.slice (some ⟨z.heap.size, 0, none⟩) 1 1)) (by simp [results, Try.results31, go_sem, q1, q2, q3, q4, q5, q6, q7, aggR]) rfl ⟨_, rfl, ?_, ?_⟩
    · rw [newF_ok hok]
      exact (((((((HR.out.off hm).off hm).off hm).off hm).off hm).off hm).off hm).wide (by omega) (by simp; rw [HSZ.out]; omega) (by simp)
    · exact ((((((HZ1.out.setCell (by simp) _).setCell (by simp) _).setCell (by simp) _).setCell (by simp) _).setCell (by simp) _).setCell (by simp) _).setCell (by simp) _

end Go.Proofs.Ytpogahhfdneagaa
