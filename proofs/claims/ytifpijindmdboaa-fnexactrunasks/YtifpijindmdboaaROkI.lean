/-
  Whether a run is ok: the contract of the program's RunOk.
-/
import Derived.Test.YtifpijindmdboaaREndI
import Derived.Test.YtifpijindmdboaaRFrO
namespace Go.Proofs.Ytifpijindmdboaa
open Go.RowKit
set_option linter.unusedVariables false
set_option linter.unusedSimpArgs false

set_option maxRecDepth 100000 in
set_option maxHeartbeats 8000000 in
theorem runOk_impl (x0 : World) (B : Nat) (v : Value) (P : List (List I4)) (h : ProgAt x0 B v P) (s : Value) (F : List Fr) (hF : FrsAt x0 s F) (q : R6) :
    Calls Try.prog 40 #[v, aggRun s q] x0 fun e y => e = .returned (.bool (runF P F q.1 q.2.1 q.2.2.1 q.2.2.2)) ∧ Below x0.heap.size x0 y := by
  obtain ⟨n1, n2, n3, n4, n5, n6⟩ := q
  obtain ⟨p, cap, rfl, _⟩ := h.shape
  obtain ⟨ps, cs, rfl, hfm⟩ := hF.shape
  dsimp only
  have HRun : Hid (runF P F n1 n2 n3 (n4, n5, n6) = (progOkF P && decide (F.length ≤ 5) && inI n1 0 300 && F.all (frameF P) && endF P F n2 n3 (n4, n5, n6))) := rfl
  generalize hFF : runF P F n1 n2 n3 (n4, n5, n6) = FF at HRun
  unfold aggRun
  dsimp only
  unfold maxLen at hfm
  have hfi : (F.length : Int) ≤ 9223372036854775807 := by omega
  have H : Hid (ProgAt x0 B (.slice p P.length cap) P) := h
  have HS : Hid (FrsAt x0 (.slice ps F.length cs) F) := hF
  clear hFF h hF hfm
  go_enter Try.func40, Try.ntmps40
  go_wp2_with fail
  have HAl : Hid (Below x0.heap.size x0 (x0.alloc (.cells #[.slice ps F.length cs, .int .i64 n1, .int .i64 n2, .int .i64 n3, .int .i64 n4, .int .i64 n5, .int .i64 n6] 56))) := (Below.refl _ _).alloc (Nat.le_refl _) _
  have K00 : Hid (BxN (x0.alloc (.cells #[.slice ps F.length cs, .int .i64 n1, .int .i64 n2, .int .i64 n3, .int .i64 n4, .int .i64 n5, .int .i64 n6] 56)) x0.heap.size [.slice ps F.length cs, .int .i64 n1, .int .i64 n2, .int .i64 n3, .int .i64 n4, .int .i64 n5, .int .i64 n6]) := BxN.new x0 [_, _, _, _, _, _, _] _
  generalize x0.alloc (.cells #[.slice ps F.length cs, .int .i64 n1, .int .i64 n2, .int .i64 n3, .int .i64 n4, .int .i64 n5, .int .i64 n6] 56) = X at HAl K00 ⊢
  refine (progOk_impl X B _ P (H.out.later HAl.out)).mono ?_
  rintro e y ⟨rfl, hb⟩
  have HY : Hid (Below x0.heap.size x0 y) := HAl.out.trans (hb.mono HAl.out.size)
  have K1 := K00.out.laterH hb
  clear hb HAl K00
  cases hok : progOkF P
  · go_wp2_with fail
    go_ret
    exact ⟨retBool (by rw [HRun.out, hok]; rfl), HY.out⟩
  · have a0 := K1.out.c 0 _ rfl
    have a1 := K1.out.c 1 _ rfl
    have l0 := K1.out.lt
    by_cases h5 : F.length ≤ 5
    · have h5i : (F.length : Int) ≤ 5 := by omega
      by_cases h6 : 0 ≤ n1
      · by_cases h7 : n1 ≤ 300
        · have HO : Hid (progOkF P = true ∧ F.length ≤ 5) := ⟨hok, h5⟩
          have HR2 : Hid (FF = (F.all (frameF P) && endF P F n2 n3 (n4, n5, n6))) := by
            show FF = _
            rw [HRun.out, hok, show inI n1 0 300 = true by simp only [inI, Bool.and_eq_true, decide_eq_true_eq]; omega]; simp [h5]
          clear HRun hok
          generalize hfn : F.length = fn at *
          have HFN : Hid (F.length = fn) := hfn
          clear hfn
          go_wp2_with fail
          go_loopw [29] (fun t z => ∃ k : Nat, k ≤ fn ∧ t = .int .i64 k ∧ Hid (Below x0.heap.size x0 z ∧ BxN z x0.heap.size [.slice ps fn cs, .int .i64 n1, .int .i64 n2, .int .i64 n3, .int .i64 n4, .int .i64 n5, .int .i64 n6] ∧ (∀ j, j < k → frameF P (F.getD j fr0) = true))) (fun t _ => fn - (intOf t).toNat)
          case atStart => exact ⟨0, by omega, rfl, HY.out, K1.out, fun j hj => by omega⟩
          case round =>
            clear a0 a1 l0
            obtain ⟨k, hk, rfl, HZ⟩ := hrel
            have a0 := HZ.out.2.1.c 0 _ rfl
            have a1 := HZ.out.2.1.c 1 _ rfl
            have a2 := HZ.out.2.1.c 2 _ rfl
            have a3 := HZ.out.2.1.c 3 _ rfl
            have a4 := HZ.out.2.1.c 4 _ rfl
            have a5 := HZ.out.2.1.c 5 _ rfl
            have a6 := HZ.out.2.1.c 6 _ rfl
            have l0 := HZ.out.2.1.lt
            by_cases hlt : k < fn
            · obtain ⟨g, o, rfl, hgx, hfr⟩ := FrsAt.frame (p := ps) (cap := cs) (F := F) (j := k) (by have := HS.out; rw [← HFN.out] at this; exact this) (by rw [HFN.out]; exact hlt)
              have hki : (k : Int) < (fn : Int) := by omega
              have hgw : g < wr.heap.size := Nat.lt_of_lt_of_le hgx HZ.out.1.size
              obtain ⟨c0, c1, c2, ⟨u3, c3, i3⟩, ⟨u4, c4, i4⟩, c5⟩ := hfr.later HZ.out.1 hgx
              obtain ⟨p3, k3, rfl⟩ := i3.shape
              obtain ⟨p4, k4, rfl⟩ := i4.shape
              have I3 : Hid (IntsW wr (.slice p3 (F.getD k fr0).r.length k3) (F.getD k fr0).r) := i3
              have I4 : Hid (IntsW wr (.slice p4 (F.getD k fr0).c.length k4) (F.getD k fr0).c) := i4
              clear i3 i4 hfr
              generalize hf : F.getD k fr0 = f at *
              have HFk : Hid (F.getD k fr0 = f) := hf
              clear hf
              obtain ⟨m0, m1, m2, m5, R, C⟩ := f
              simp only at c0 c1 c2 c3 c4 c5 I3 I4
              generalize hrn : R.length = rn at *
              generalize hcn : C.length = cn at *
              clear hrn hcn
              have HCALL : Hid (∀ z : World, Below wr.heap.size wr z → Calls Try.prog 76 #[.slice p P.length cap, .agg #[.int .i64 m0, .int .i64 m1, .int .i64 m2, .slice p3 rn k3, .slice p4 cn k4, .int .i64 m5]] z fun e y => e = .returned (.bool (frameF P ⟨m0, m1, m2, m5, R, C⟩)) ∧ Below z.heap.size z y) := fun z hz =>
                frameOk_impl z B _ P ((H.out.later HZ.out.1).later hz) HO.out.1 ⟨m0, m1, m2, m5, R, C⟩ _ _ (I3.out.later hz) (I4.out.later hz)
              clear I3 I4
              go_wp2_with fail
              have hA2 : Below wr.heap.size wr (wr.alloc (.cells #[.int .i64 m0, .int .i64 m1, .int .i64 m2, .slice p3 rn k3, .slice p4 cn k4, .int .i64 m5] 98)) := (Below.refl _ _).alloc (Nat.le_refl _) _
              refine (HCALL.out _ hA2).mono ?_
              rintro e z ⟨rfl, hb⟩
              have hB3 := hA2.trans (hb.mono hA2.size)
              have hB2 := HZ.out.1.trans (hB3.mono HZ.out.1.size)
              clear hb hA2 HCALL
              cases hfo : frameF P ⟨m0, m1, m2, m5, R, C⟩
              · go_wp2_with fail
                go_ret
                exact ⟨retBool (by rw [HR2.out, allI_no fr0 (frameF P) (j := k) (by rw [HFN.out]; exact hlt) (by rw [HFk.out]; exact hfo)]; simp), hB2⟩
              · have HZ2 : Hid (Below x0.heap.size x0 z ∧ BxN z x0.heap.size [.slice (some ⟨g, o, none⟩) fn cs, .int .i64 n1, .int .i64 n2, .int .i64 n3, .int .i64 n4, .int .i64 n5, .int .i64 n6] ∧ (∀ j, j < k + 1 → frameF P (F.getD j fr0) = true)) := by
                  refine ⟨hB2, HZ.out.2.1.later hB3, fun j hj => ?_⟩
                  by_cases hjk : j = k
                  · subst hjk; rw [HFk.out]; exact hfo
                  · exact HZ.out.2.2 j (by omega)
                clear c0 c1 c2 c3 c4 c5 a0 a1 a2 a3 a4 a5 a6 l0
                go_wp2_with fail
                go_roundw
                case rel => exact ⟨k + 1, by omega, by go_num, HZ2⟩
                case measure => simp [intOf]; omega
            · obtain rfl : k = fn := by omega
              have hki : ¬ (k : Int) < (k : Int) := by omega
              have HEND : Hid (∀ z : World, Below wr.heap.size wr z → Calls Try.prog 77 #[.slice p P.length cap, .agg #[.slice ps k cs, .int .i64 n1, .int .i64 n2, .int .i64 n3, .int .i64 n4, .int .i64 n5, .int .i64 n6]] z fun e y => e = .returned (.bool (endF P F n2 n3 (n4, n5, n6))) ∧ Below z.heap.size z y) := fun z hz =>
                endOk_any z B _ P ((H.out.later HZ.out.1).later hz) HO.out.1 (.slice ps k cs) F ((HS.out.later HZ.out.1).later hz) (by rw [HFN.out]; omega) (n1, n2, n3, n4, n5, n6)
              go_wp2_with fail
              refine (HEND.out _ (Below.refl _ _)).mono ?_
              rintro e z ⟨rfl, hb⟩
              have hB2 := HZ.out.1.trans (hb.mono HZ.out.1.size)
              clear hb a0 a1 a2 a3 a4 a5 a6 l0
              go_wp2_with fail
              go_ret
              exact ⟨retBool (by rw [HR2.out, allI_yes fr0 (frameF P) (fun j hj => HZ.out.2.2 j (by rw [HFN.out] at hj; exact hj))]; simp), hB2⟩
        · have hr : inI n1 0 300 = false := by simp [inI]; omega
          clear HS
          generalize F.length = fn at *
          go_wp2_with fail
          go_ret
          exact ⟨retBool (by rw [HRun.out, hr]; simp), HY.out⟩
      · have hr : inI n1 0 300 = false := by simp [inI]; omega
        clear HS
        generalize F.length = fn at *
        go_wp2_with fail
        go_ret
        exact ⟨retBool (by rw [HRun.out, hr]; simp), HY.out⟩
    · have hr : decide (F.length ≤ 5) = false := by simp; omega
      have h5i : ¬ (F.length : Int) ≤ 5 := by omega
      have HR2 : Hid (FF = false) := by show FF = _; rw [HRun.out, hr]; simp
      clear HS HRun hr
      generalize F.length = fn at *
      go_wp2_with fail
      go_ret
      exact ⟨retBool HR2.out.symm, HY.out⟩

end Go.Proofs.Ytifpijindmdboaa
