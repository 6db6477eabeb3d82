import Derived.Test.YtbjegekfghihkaaB29
import Derived.Test.YtbjegekfghihkaaB25
import Derived.Test.YtbjegekfghihkaaB20
/-
  Whether a run is ok: the contract of the model's RunOk.
-/
namespace Go.Proofs.Ytbjegekfghihkaa
open Go.RowKit
set_option linter.unusedVariables false
set_option linter.unusedSimpArgs false

set_option maxRecDepth 100000 in
set_option maxHeartbeats 8000000 in
theorem runOk_spec (x0 : World) (B : Nat) (v : Value) (P : List (List I4)) (h : ProgAt x0 B v P) (s : Value) (F : List Fr) (hF : FrsAt x0 s F) (q : R6) :
    Calls Try.prog 24 #[v, aggRun s q] x0 fun e y => e = .returned (.bool (runF P F q.1 q.2.1 q.2.2.1 q.2.2.2)) ∧ Below x0.heap.size x0 y := by
  obtain ⟨n1, n2, n3, n4, n5, n6⟩ := q
  obtain ⟨p, cap, rfl, _⟩ := h.shape
  obtain ⟨ps, cs, rfl, hfm⟩ := hF.shape
  dsimp only
  have HRun : Hid (runF P F n1 n2 n3 (n4, n5, n6) = (progOkF P && decide (F.length ≤ 5) && inI n1 0 300 && F.all (frameF P) && endF P F n2 n3 (n4, n5, n6))) := rfl
  generalize hFF : runF P F n1 n2 n3 (n4, n5, n6) = FF at HRun
  unfold aggRun
  dsimp only
  unfold maxLen at hfm
  have hfi : (F.length : Int) ≤ 9223372036854775807 := by omega
  have H : Hid (ProgAt x0 B (.slice p P.length cap) P) := h
  have HS : Hid (FrsAt x0 (.slice ps F.length cs) F) := hF
  clear hFF h hF hfm
  go_enter Try.func24, Try.ntmps24
  go_wp2_with fail
  have HAl : Hid (Below x0.heap.size x0 (x0.alloc (.cells #[.slice ps F.length cs, .int .i64 n1, .int .i64 n2, .int .i64 n3, .int .i64 n4, .int .i64 n5, .int .i64 n6] 56))) := (Below.refl _ _).alloc (Nat.le_refl _) _
  have K00 : Hid (BxN (x0.alloc (.cells #[.slice ps F.length cs, .int .i64 n1, .int .i64 n2, .int .i64 n3, .int .i64 n4, .int .i64 n5, .int .i64 n6] 56)) x0.heap.size [.slice ps F.length cs, .int .i64 n1, .int .i64 n2, .int .i64 n3, .int .i64 n4, .int .i64 n5, .int .i64 n6]) := BxN.new x0 [_, _, _, _, _, _, _] _
  generalize x0.alloc (.cells #[.slice ps F.length cs, .int .i64 n1, .int .i64 n2, .int .i64 n3, .int .i64 n4, .int .i64 n5, .int .i64 n6] 56) = X at HAl K00 ⊢
  refine (progOk_spec X B _ P (H.out.later HAl.out)).mono ?_
  rintro e y ⟨rfl, hb⟩
  have HY : Hid (Below x0.heap.size x0 y) := HAl.out.trans (hb.mono HAl.out.size)
  have K1 := K00.out.laterH hb
  clear hb HAl K00
  cases hok : progOkF P
  · go_wp2_with fail
    go_ret
    exact ⟨retBool (by rw [HRun.out, hok]; rfl), HY.out⟩
  · have a0 := K1.out.c 0 _ rfl
    have a1 := K1.out.c 1 _ rfl
    have l0 := K1.out.lt
    go_wp2_with fail
    refine (l6In_e n1 0 300 y).mono ?_
    rintro e z ⟨rfl, hz⟩
    have hz2 := hz.symm
    subst hz2
    clear hz
    cases hr : inI n1 0 300
    · go_wp2_with fail
      go_ret
      exact ⟨retBool (by rw [HRun.out, hr]; simp), HY.out⟩
    · by_cases h5 : F.length ≤ 5
      · have h5i : (F.length : Int) ≤ 5 := by omega
        have HO : Hid (progOkF P = true ∧ F.length ≤ 5) := ⟨hok, h5⟩
        have HR2 : Hid (FF = (F.all (frameF P) && endF P F n2 n3 (n4, n5, n6))) := by
          show FF = _
          rw [HRun.out, hok, hr]; simp [h5]
        clear HRun hok hr
        generalize hfn : F.length = fn at *
        have HFN : Hid (F.length = fn) := hfn
        clear hfn
        go_wp2_with fail
        go_loopw [5] (fun t z => ∃ k : Nat, k ≤ fn ∧ t = .int .i64 k ∧ Hid (Below x0.heap.size x0 z ∧ BxN z x0.heap.size [.slice ps fn cs, .int .i64 n1, .int .i64 n2, .int .i64 n3, .int .i64 n4, .int .i64 n5, .int .i64 n6] ∧ (∀ j, j < k → frameF P (F.getD j fr0) = true))) (fun t _ => fn - (intOf t).toNat)
        case atStart => exact ⟨0, by omega, rfl, HY.out, K1.out, fun j hj => by omega⟩
        case round =>
          clear a0 a1 l0
          obtain ⟨k, hk, rfl, HZ⟩ := hrel
          have a0 := HZ.out.2.1.c 0 _ rfl
          have a1 := HZ.out.2.1.c 1 _ rfl
          have a2 := HZ.out.2.1.c 2 _ rfl
          have a3 := HZ.out.2.1.c 3 _ rfl
          have a4 := HZ.out.2.1.c 4 _ rfl
          have a5 := HZ.out.2.1.c 5 _ rfl
          have a6 := HZ.out.2.1.c 6 _ rfl
          have l0 := HZ.out.2.1.lt
          by_cases hlt : k < fn
          · obtain ⟨g, o, rfl, hgx, hfr⟩ := FrsAt.frame (p := ps) (cap := cs) (F := F) (j := k) (by have := HS.out; rw [← HFN.out] at this; exact this) (by rw [HFN.out]; exact hlt)
            have hki : (k : Int) < (fn : Int) := by omega
            have hgw : g < wr.heap.size := Nat.lt_of_lt_of_le hgx HZ.out.1.size
            obtain ⟨c0, c1, c2, ⟨u3, c3, i3⟩, ⟨u4, c4, i4⟩, c5⟩ := hfr.later HZ.out.1 hgx
            obtain ⟨p3, k3, rfl⟩ := i3.shape
            obtain ⟨p4, k4, rfl⟩ := i4.shape
            have I3 : Hid (IntsW wr (.slice p3 (F.getD k fr0).r.length k3) (F.getD k fr0).r) := i3
            have I4 : Hid (IntsW wr (.slice p4 (F.getD k fr0).c.length k4) (F.getD k fr0).c) := i4
            clear i3 i4 hfr
            generalize hf : F.getD k fr0 = f at *
            have HFk : Hid (F.getD k fr0 = f) := hf
            clear hf
            obtain ⟨m0, m1, m2, m5, R, C⟩ := f
            simp only at c0 c1 c2 c3 c4 c5 I3 I4
            generalize hrn : R.length = rn at *
            generalize hcn : C.length = cn at *
            clear hrn hcn
            have HCALL : Hid (∀ z : World, Below wr.heap.size wr z → Calls Try.prog 51 #[.slice p P.length cap, .agg #[.int .i64 m0, .int .i64 m1, .int .i64 m2, .slice p3 rn k3, .slice p4 cn k4, .int .i64 m5]] z fun e y => e = .returned (.bool (frameF P ⟨m0, m1, m2, m5, R, C⟩)) ∧ Below z.heap.size z y) := fun z hz =>
              l3FrameOk_any z B _ P ((H.out.later HZ.out.1).later hz) HO.out.1 ⟨m0, m1, m2, m5, R, C⟩ _ _ (I3.out.later hz) (I4.out.later hz)
            clear I3 I4
            go_wp2_with fail
            refine (HCALL.out _ (Below.refl _ _)).mono ?_
            rintro e z ⟨rfl, hb⟩
            have hB3 := hb
            have hB2 := HZ.out.1.trans (hB3.mono HZ.out.1.size)
            clear hb HCALL
            cases hfo : frameF P ⟨m0, m1, m2, m5, R, C⟩
            · go_wp2_with fail
              go_ret
              exact ⟨retBool (by rw [HR2.out, allI_no fr0 (frameF P) (j := k) (by rw [HFN.out]; exact hlt) (by rw [HFk.out]; exact hfo)]; simp), hB2⟩
            · have HZ2 : Hid (Below x0.heap.size x0 z ∧ BxN z x0.heap.size [.slice (some ⟨g, o, none⟩) fn cs, .int .i64 n1, .int .i64 n2, .int .i64 n3, .int .i64 n4, .int .i64 n5, .int .i64 n6] ∧ (∀ j, j < k + 1 → frameF P (F.getD j fr0) = true)) := by
                refine ⟨hB2, HZ.out.2.1.later hB3, fun j hj => ?_⟩
                by_cases hjk : j = k
                · subst hjk; rw [HFk.out]; exact hfo
                · exact HZ.out.2.2 j (by omega)
              clear c0 c1 c2 c3 c4 c5 a0 a1 a2 a3 a4 a5 a6 l0
              go_wp2_with fail
              go_roundw
              case rel => exact ⟨k + 1, by omega, by go_num, HZ2⟩
              case measure => simp [intOf]; omega
          · obtain rfl : k = fn := by omega
            have hki : ¬ (k : Int) < (k : Int) := by omega
            have HEND : Hid (∀ z : World, Below wr.heap.size wr z → Calls Try.prog 52 #[.slice p P.length cap, .agg #[.slice ps k cs, .int .i64 n1, .int .i64 n2, .int .i64 n3, .int .i64 n4, .int .i64 n5, .int .i64 n6]] z fun e y => e = .returned (.bool (endF P F n2 n3 (n4, n5, n6))) ∧ Below z.heap.size z y) := fun z hz =>
              l3EndOk_any z B _ P ((H.out.later HZ.out.1).later hz) HO.out.1 (.slice ps k cs) F ((HS.out.later HZ.out.1).later hz) (by rw [HFN.out]; omega) (n1, n2, n3, n4, n5, n6)
            go_wp2_with fail
            refine (HEND.out _ (Below.refl _ _)).mono ?_
            rintro e z ⟨rfl, hb⟩
            have hB2 := HZ.out.1.trans (hb.mono HZ.out.1.size)
            clear hb a0 a1 a2 a3 a4 a5 a6 l0
            go_wp2_with fail
            go_ret
            exact ⟨retBool (by rw [HR2.out, allI_yes fr0 (frameF P) (fun j hj => HZ.out.2.2 j (by rw [HFN.out] at hj; exact hj))]; simp), hB2⟩
      · have hr2 : decide (F.length ≤ 5) = false := by simp; omega
        have h5i : ¬ (F.length : Int) ≤ 5 := by omega
        have HR2 : Hid (FF = false) := by show FF = _; rw [HRun.out, hr2]; simp
        clear HS HRun hr2 hr
        generalize F.length = fn at *
        go_wp2_with fail
        go_ret
        exact ⟨retBool HR2.out.symm, HY.out⟩

end Go.Proofs.Ytbjegekfghihkaa

/-
  Whether a run asks: the contract of the model's RunAsks.
-/
namespace Go.Proofs.Ytbjegekfghihkaa
open Go.RowKit
set_option linter.unusedVariables false
set_option linter.unusedSimpArgs false

def nextI (P : List (List I4)) (F : List Fr) : I4 := if (topF F).t.toNat = (P.getD (topF F).p.toNat []).length then (9, -1, 0, 0) else (P.getD (topF F).p.toNat []).getD (topF F).t.toNat i0
theorem nextI_asks (P : List (List I4)) (F : List Fr) : ((nextI P F).1 == 3) = askF P F := by
  unfold nextI askF
  split
  · rfl
  · exact beqc _ _

set_option maxRecDepth 100000 in
set_option maxHeartbeats 8000000 in
theorem l3Next_any (x0 : World) (B : Nat) (v : Value) (P : List (List I4)) (h : ProgAt x0 B v P) (s : Value) (F : List Fr) (hF : FrsAt x0 s F) (n1 n2 n3 n4 n5 n6 : Int) (hok : progOkF P = true) (hf0 : 0 < F.length) (hf5 : F.length ≤ 5) (hfr : frameF P (topF F) = true) :
    Calls Try.prog 43 #[v, .agg #[s, .int .i64 n1, .int .i64 n2, .int .i64 n3, .int .i64 n4, .int .i64 n5, .int .i64 n6]] x0 fun e y => e = .returned (aggI (nextI P F)) ∧ Below x0.heap.size x0 y := by
  obtain ⟨p, cap, rfl, _⟩ := h.shape
  obtain ⟨ps, cs, rfl, _⟩ := hF.shape
  obtain ⟨k, a, hp, ht, hk, ha⟩ := frameF_at hfr
  obtain ⟨g, o, rfl, hg, hc⟩ := FrsAt.frame hF (j := F.length - 1) (by omega)
  obtain ⟨g2, o2, u, rfl, hg2, hu, hcu⟩ := h.code hk
  obtain ⟨pk, ck, rfl, _⟩ := hcu.shape
  have HCU : Hid (CodeAt x0 B (.slice pk (P.getD k []).length ck) (P.getD k [])) := hcu
  have h8 := (progOkF_code hok hk).1
  have hl4 := (progOkF_len hok).2
  have HNI : Hid (nextI P F = (if a = (P.getD k []).length then (9, -1, 0, 0) else (P.getD k []).getD a i0)) := by
    show _ = _
    simp only [nextI, hp, ht, Int.toNat_natCast]
  generalize nextI P F = NI at HNI ⊢
  obtain ⟨c0, c1, c2, ⟨u3, c3, i3⟩, ⟨u4, c4, i4⟩, c5⟩ := hc
  rw [show F.getD (F.length - 1) fr0 = topF F from rfl] at c0 c1 c2 c5 i3 i4
  rw [hp] at c0
  rw [ht] at c2
  obtain ⟨p3, k3, rfl⟩ := i3.shape
  obtain ⟨p4, k4, rfl⟩ := i4.shape
  clear i3 i4 hcu
  generalize (topF F).r.length = rn at *
  generalize (topF F).c.length = cn at *
  generalize (topF F).a = m1 at *
  generalize (topF F).i = m5 at *
  clear hp ht hF h hfr hok
  generalize hfn : F.length = fn at *
  clear hfn
  have hfi : (fn : Int) ≤ 5 := by omega
  obtain ⟨q, hq⟩ : ∃ q : Nat, (fn : Int) - 1 = (q : Int) ∧ fn - 1 = q := ⟨fn - 1, by omega, rfl⟩
  have hqf : (q : Int) < (fn : Int) := by omega
  have hqi := hq.1
  rw [hq.2] at c0 c1 c2 c3 c4 c5
  clear hq hf0 hf5
  have hki : (k : Int) < (P.length : Int) := by omega
  have hli : (P.length : Int) ≤ 4 := by omega
  have h8i : ((P.getD k []).length : Int) ≤ 8 := by omega
  have hai : (a : Int) ≤ ((P.getD k []).length : Int) := by omega
  go_enter Try.func43, Try.ntmps43
  go_wp2_with fail
  generalize hX : ((x0.alloc (.cells #[.slice (some ⟨g, o, none⟩) fn cs, .int .i64 n1, .int .i64 n2, .int .i64 n3, .int .i64 n4, .int .i64 n5, .int .i64 n6] 56)).alloc (.cells #[.int .i64 0, .int .i64 0, .int .i64 0, .int .i64 0] 86)).alloc (.cells #[.int .i64 k, .int .i64 m1, .int .i64 a, .slice p3 rn k3, .slice p4 cn k4, .int .i64 m5] 99) = X
  have HXB : Hid (Below x0.heap.size x0 X) := by show Below _ _ _; rw [← hX]; exact (((Below.refl _ _).alloc (Nat.le_refl _) _).alloc (by simp) _).alloc (by simp; omega) _
  have K1 : Hid (BxN X (x0.heap.size + 1) [.int .i64 0, .int .i64 0, .int .i64 0, .int .i64 0]) := by
    show BxN _ _ _; rw [← hX]
    have := (BxN.new (x0.alloc (.cells #[.slice (some ⟨g, o, none⟩) fn cs, .int .i64 n1, .int .i64 n2, .int .i64 n3, .int .i64 n4, .int .i64 n5, .int .i64 n6] 56)) [.int .i64 0, .int .i64 0, .int .i64 0, .int .i64 0] 86).later ((Below.refl _ _).alloc (Nat.le_refl _) (.cells #[.int .i64 k, .int .i64 m1, .int .i64 a, .slice p3 rn k3, .slice p4 cn k4, .int .i64 m5] 99))
    simpa using this
  have K2 : Hid (BxN X (x0.heap.size + 1 + 1) [.int .i64 k, .int .i64 m1, .int .i64 a, .slice p3 rn k3, .slice p4 cn k4, .int .i64 m5]) := by
    show BxN _ _ _; rw [← hX]
    have := BxN.new ((x0.alloc (.cells #[.slice (some ⟨g, o, none⟩) fn cs, .int .i64 n1, .int .i64 n2, .int .i64 n3, .int .i64 n4, .int .i64 n5, .int .i64 n6] 56)).alloc (.cells #[.int .i64 0, .int .i64 0, .int .i64 0, .int .i64 0] 86)) [.int .i64 k, .int .i64 m1, .int .i64 a, .slice p3 rn k3, .slice p4 cn k4, .int .i64 m5] 99
    simpa using this
  clear hX c0 c1 c2 c3 c4 c5
  by_cases he : a = (P.getD k []).length
  · have heb : ((a : Int) == ((P.getD k []).length : Int)) = true := by rw [he]; simp
    have HN2 : Hid (NI = (9, -1, 0, 0)) := by show _ = _; rw [HNI.out, if_pos he]
    clear HNI HCU he
    generalize (P.getD k []).length = cl at *
    generalize P.length = pn at *
    refine wp_region_vals (by kernel_rfl) (by kernel_rfl) (by kernel_rfl) (by kernel_rfl) (fun j => [.pointer (some ⟨x0.heap.size + 1 + 1, 2, none⟩), .int .i64 a, .slice (some ⟨g2, o2, none⟩) pn cap, .pointer (some ⟨x0.heap.size + 1 + 1, 0, none⟩), .int .i64 k, .pointer (some ⟨g2, o2 + k, none⟩), .pointer (some ⟨g2, o2 + k, none⟩), .slice pk cl ck, .int .i64 cl, .bool true].getD j undef) X (Below.drew (Below.refl _ _)) ?step ⟨#[.slice (some ⟨g2, o2, none⟩) pn cap, .agg #[.slice (some ⟨g, o, none⟩) fn cs, .int .i64 n1, .int .i64 n2, .int .i64 n3, .int .i64 n4, .int .i64 n5, .int .i64 n6], undef, .pointer (some ⟨x0.heap.size, 0, none⟩), .pointer (some ⟨x0.heap.size + 1, 0, none⟩), .pointer (some ⟨x0.heap.size + 1 + 1, 0, none⟩), .pointer (some ⟨x0.heap.size, 0, none⟩), .slice (some ⟨g, o, none⟩) fn cs, .pointer (some ⟨x0.heap.size, 0, none⟩), .slice (some ⟨g, o, none⟩) fn cs, .int .i64 ↑fn, .int .i64 ↑q, .pointer (some ⟨g, o + q * 6, none⟩), .agg #[.int .i64 ↑k, .int .i64 m1, .int .i64 ↑a, .slice p3 rn k3, .slice p4 cn k4, .int .i64 m5], .pointer (some ⟨x0.heap.size + 1 + 1, 2, none⟩), .int .i64 a, .slice (some ⟨g2, o2, none⟩) pn cap, .pointer (some ⟨x0.heap.size + 1 + 1, 0, none⟩), .int .i64 k, .pointer (some ⟨g2, o2 + k, none⟩), .pointer (some ⟨g2, o2 + k, none⟩), .slice pk cl ck, .int .i64 cl, .bool true, undef, undef, undef, undef, undef, undef, undef, undef, undef, undef, undef], []⟩ (by kernel_rfl) ?fin
    case step =>
      intro i o ho ρ y x hBx hdep hout
      rcases i with _ | i
      · obtain rfl := Option.some.inj ho
        have o5 : ρ (.tmp 5) = .pointer (some ⟨x0.heap.size + 1 + 1, 0, none⟩) := hout (.tmp 5) rfl
        have ocn : ∀ v, ρ (.const v) = v := fun v => hout (.const v) rfl
        have ofn : ∀ f, ρ (.func f) = .func (.func f) #[] #[] := fun f => hout (.func f) rfl
        clear hdep hout
        refine .inl ⟨?_, ?_⟩
        · rfl
        show Gives _ _ _ (.pointer (some ⟨x0.heap.size + 1 + 1, 2, none⟩)) _
        refine Gives.val ?_
        go_simp
      rcases i with _ | i
      · obtain rfl := Option.some.inj ho
        have e0 : ρ (.tmp 14) = .pointer (some ⟨x0.heap.size + 1 + 1, 2, none⟩) := (hdep ⟨0, .data⟩ (by simp) rfl).1 14 rfl
        have ocn : ∀ v, ρ (.const v) = v := fun v => hout (.const v) rfl
        have ofn : ∀ f, ρ (.func f) = .func (.func f) #[] #[] := fun f => hout (.func f) rfl
        clear hdep hout
        refine .inl ⟨?_, ?_⟩
        · rfl
        have kb := K2.out.later hBx
        have f0 := kb.c 0 _ rfl
        have f2 := kb.c 2 _ rfl
        have fl0 := kb.lt
        have hbz := HXB.out.trans (hBx.mono HXB.out.size)
        have hcu := (hbz.cell (p := ⟨g2, o2 + k, none⟩) hg2).trans hu
        show Gives _ _ _ (.int .i64 a) _
        refine Gives.val ?_
        go_simp
      rcases i with _ | i
      · obtain rfl := Option.some.inj ho
        have o0 : ρ (.tmp 0) = .slice (some ⟨g2, o2, none⟩) pn cap := hout (.tmp 0) rfl
        have ocn : ∀ v, ρ (.const v) = v := fun v => hout (.const v) rfl
        have ofn : ∀ f, ρ (.func f) = .func (.func f) #[] #[] := fun f => hout (.func f) rfl
        clear hdep hout
        refine .inl ⟨?_, ?_⟩
        · rfl
        show Gives _ _ _ (.slice (some ⟨g2, o2, none⟩) pn cap) _
        refine Gives.val ?_
        go_simp
      rcases i with _ | i
      · obtain rfl := Option.some.inj ho
        have o5 : ρ (.tmp 5) = .pointer (some ⟨x0.heap.size + 1 + 1, 0, none⟩) := hout (.tmp 5) rfl
        have ocn : ∀ v, ρ (.const v) = v := fun v => hout (.const v) rfl
        have ofn : ∀ f, ρ (.func f) = .func (.func f) #[] #[] := fun f => hout (.func f) rfl
        clear hdep hout
        refine .inl ⟨?_, ?_⟩
        · rfl
        show Gives _ _ _ (.pointer (some ⟨x0.heap.size + 1 + 1, 0, none⟩)) _
        refine Gives.val ?_
        go_simp
      rcases i with _ | i
      · obtain rfl := Option.some.inj ho
        have e3 : ρ (.tmp 17) = .pointer (some ⟨x0.heap.size + 1 + 1, 0, none⟩) := (hdep ⟨3, .data⟩ (by simp) rfl).1 17 rfl
        have ocn : ∀ v, ρ (.const v) = v := fun v => hout (.const v) rfl
        have ofn : ∀ f, ρ (.func f) = .func (.func f) #[] #[] := fun f => hout (.func f) rfl
        clear hdep hout
        refine .inl ⟨?_, ?_⟩
        · rfl
        have kb := K2.out.later hBx
        have f0 := kb.c 0 _ rfl
        have f2 := kb.c 2 _ rfl
        have fl0 := kb.lt
        have hbz := HXB.out.trans (hBx.mono HXB.out.size)
        have hcu := (hbz.cell (p := ⟨g2, o2 + k, none⟩) hg2).trans hu
        show Gives _ _ _ (.int .i64 k) _
        refine Gives.val ?_
        go_simp
      rcases i with _ | i
      · obtain rfl := Option.some.inj ho
        have e2 : ρ (.tmp 16) = .slice (some ⟨g2, o2, none⟩) pn cap := (hdep ⟨2, .data⟩ (by simp) rfl).1 16 rfl
        have e4 : ρ (.tmp 18) = .int .i64 k := (hdep ⟨4, .data⟩ (by simp) rfl).1 18 rfl
        have ocn : ∀ v, ρ (.const v) = v := fun v => hout (.const v) rfl
        have ofn : ∀ f, ρ (.func f) = .func (.func f) #[] #[] := fun f => hout (.func f) rfl
        clear hdep hout
        refine .inl ⟨?_, ?_⟩
        · rfl
        show Gives _ _ _ (.pointer (some ⟨g2, o2 + k, none⟩)) _
        refine Gives.val ?_
        go_simp
      rcases i with _ | i
      · obtain rfl := Option.some.inj ho
        have e5 : ρ (.tmp 19) = .pointer (some ⟨g2, o2 + k, none⟩) := (hdep ⟨5, .data⟩ (by simp) rfl).1 19 rfl
        have ocn : ∀ v, ρ (.const v) = v := fun v => hout (.const v) rfl
        have ofn : ∀ f, ρ (.func f) = .func (.func f) #[] #[] := fun f => hout (.func f) rfl
        clear hdep hout
        refine .inl ⟨?_, ?_⟩
        · rfl
        show Gives _ _ _ (.pointer (some ⟨g2, o2 + k, none⟩)) _
        refine Gives.val ?_
        go_simp
      rcases i with _ | i
      · obtain rfl := Option.some.inj ho
        have e6 : ρ (.tmp 20) = .pointer (some ⟨g2, o2 + k, none⟩) := (hdep ⟨6, .data⟩ (by simp) rfl).1 20 rfl
        have ocn : ∀ v, ρ (.const v) = v := fun v => hout (.const v) rfl
        have ofn : ∀ f, ρ (.func f) = .func (.func f) #[] #[] := fun f => hout (.func f) rfl
        clear hdep hout
        refine .inl ⟨?_, ?_⟩
        · rfl
        have kb := K2.out.later hBx
        have f0 := kb.c 0 _ rfl
        have f2 := kb.c 2 _ rfl
        have fl0 := kb.lt
        have hbz := HXB.out.trans (hBx.mono HXB.out.size)
        have hcu := (hbz.cell (p := ⟨g2, o2 + k, none⟩) hg2).trans hu
        show Gives _ _ _ (.slice pk cl ck) _
        refine Gives.val ?_
        go_simp
      rcases i with _ | i
      · obtain rfl := Option.some.inj ho
        have e7 : ρ (.tmp 21) = .slice pk cl ck := (hdep ⟨7, .data⟩ (by simp) rfl).1 21 rfl
        have ocn : ∀ v, ρ (.const v) = v := fun v => hout (.const v) rfl
        have ofn : ∀ f, ρ (.func f) = .func (.func f) #[] #[] := fun f => hout (.func f) rfl
        clear hdep hout
        refine .inl ⟨?_, ?_⟩
        · rfl
        show Gives _ _ _ (.int .i64 cl) _
        refine Gives.val ?_
        go_simp
      rcases i with _ | i
      · obtain rfl := Option.some.inj ho
        have e1 : ρ (.tmp 15) = .int .i64 a := (hdep ⟨1, .data⟩ (by simp) rfl).1 15 rfl
        have e8 : ρ (.tmp 22) = .int .i64 cl := (hdep ⟨8, .data⟩ (by simp) rfl).1 22 rfl
        have ocn : ∀ v, ρ (.const v) = v := fun v => hout (.const v) rfl
        have ofn : ∀ f, ρ (.func f) = .func (.func f) #[] #[] := fun f => hout (.func f) rfl
        clear hdep hout
        refine .inl ⟨?_, ?_⟩
        · rfl
        show Gives _ _ _ (.bool true) _
        refine Gives.val ?_
        go_simp
      cases ho
    case fin =>
      intro x hBx
      have hBf := HXB.out.trans (hBx.mono HXB.out.size)
      have kr := K1.out.later hBx
      have r0 := kr.c 0 _ rfl
      have r1 := kr.c 1 _ rfl
      have r2 := kr.c 2 _ rfl
      have r3 := kr.c 3 _ rfl
      have z0 := kr.fz 0
      have z1 := kr.fz 1
      have z2 := kr.fz 2
      have z3 := kr.fz 3
      have rl := kr.lt
      clear kr K1 K2 HXB hBx
      go_wp2_with fail
      refine bodyPost_ret (v := .agg #[.int .i64 9, .int .i64 (-1), .int .i64 0, .int .i64 0]) (by simp [results, Try.results43, go_sem, r0, r1, r2, r3, z0, z1, z2, z3, rl]) rfl ⟨by rw [HN2.out]; rfl, ?_⟩
      repeat (refine Below.setCell ?_ (by simp <;> omega) _)
      exact hBf
  · have heb : ((a : Int) == ((P.getD k []).length : Int)) = false := by rw [beqc]; exact decide_eq_false (fun e => he (by omega))
    have HN2 : Hid (NI = (P.getD k []).getD a i0) := by show _ = _; rw [HNI.out, if_neg he]
    obtain ⟨g3, o3, rfl, hg3, q0, q1, q2, q3⟩ := HCU.out.ins (j := a) (by omega)
    generalize (P.getD k []).getD a i0 = I at HN2 q0 q1 q2 q3
    have hail : (a : Int) < ((P.getD k []).length : Int) := by omega
    clear HNI HCU he
    generalize (P.getD k []).length = cl at *
    generalize P.length = pn at *
    refine wp_region_vals (by kernel_rfl) (by kernel_rfl) (by kernel_rfl) (by kernel_rfl) (fun j => [.pointer (some ⟨x0.heap.size + 1 + 1, 2, none⟩), .int .i64 a, .slice (some ⟨g2, o2, none⟩) pn cap, .pointer (some ⟨x0.heap.size + 1 + 1, 0, none⟩), .int .i64 k, .pointer (some ⟨g2, o2 + k, none⟩), .pointer (some ⟨g2, o2 + k, none⟩), .slice (some ⟨g3, o3, none⟩) cl ck, .int .i64 cl, .bool false].getD j undef) X (Below.drew (Below.refl _ _)) ?step ⟨#[.slice (some ⟨g2, o2, none⟩) pn cap, .agg #[.slice (some ⟨g, o, none⟩) fn cs, .int .i64 n1, .int .i64 n2, .int .i64 n3, .int .i64 n4, .int .i64 n5, .int .i64 n6], undef, .pointer (some ⟨x0.heap.size, 0, none⟩), .pointer (some ⟨x0.heap.size + 1, 0, none⟩), .pointer (some ⟨x0.heap.size + 1 + 1, 0, none⟩), .pointer (some ⟨x0.heap.size, 0, none⟩), .slice (some ⟨g, o, none⟩) fn cs, .pointer (some ⟨x0.heap.size, 0, none⟩), .slice (some ⟨g, o, none⟩) fn cs, .int .i64 ↑fn, .int .i64 ↑q, .pointer (some ⟨g, o + q * 6, none⟩), .agg #[.int .i64 ↑k, .int .i64 m1, .int .i64 ↑a, .slice p3 rn k3, .slice p4 cn k4, .int .i64 m5], .pointer (some ⟨x0.heap.size + 1 + 1, 2, none⟩), .int .i64 a, .slice (some ⟨g2, o2, none⟩) pn cap, .pointer (some ⟨x0.heap.size + 1 + 1, 0, none⟩), .int .i64 k, .pointer (some ⟨g2, o2 + k, none⟩), .pointer (some ⟨g2, o2 + k, none⟩), .slice (some ⟨g3, o3, none⟩) cl ck, .int .i64 cl, .bool false, undef, undef, undef, undef, undef, undef, undef, undef, undef, undef, undef], []⟩ (by kernel_rfl) ?fin
    case step =>
      intro i o ho ρ y x hBx hdep hout
      rcases i with _ | i
      · obtain rfl := Option.some.inj ho
        have o5 : ρ (.tmp 5) = .pointer (some ⟨x0.heap.size + 1 + 1, 0, none⟩) := hout (.tmp 5) rfl
        have ocn : ∀ v, ρ (.const v) = v := fun v => hout (.const v) rfl
        have ofn : ∀ f, ρ (.func f) = .func (.func f) #[] #[] := fun f => hout (.func f) rfl
        clear hdep hout
        refine .inl ⟨?_, ?_⟩
        · rfl
        show Gives _ _ _ (.pointer (some ⟨x0.heap.size + 1 + 1, 2, none⟩)) _
        refine Gives.val ?_
        go_simp
      rcases i with _ | i
      · obtain rfl := Option.some.inj ho
        have e0 : ρ (.tmp 14) = .pointer (some ⟨x0.heap.size + 1 + 1, 2, none⟩) := (hdep ⟨0, .data⟩ (by simp) rfl).1 14 rfl
        have ocn : ∀ v, ρ (.const v) = v := fun v => hout (.const v) rfl
        have ofn : ∀ f, ρ (.func f) = .func (.func f) #[] #[] := fun f => hout (.func f) rfl
        clear hdep hout
        refine .inl ⟨?_, ?_⟩
        · rfl
        have kb := K2.out.later hBx
        have f0 := kb.c 0 _ rfl
        have f2 := kb.c 2 _ rfl
        have fl0 := kb.lt
        have hbz := HXB.out.trans (hBx.mono HXB.out.size)
        have hcu := (hbz.cell (p := ⟨g2, o2 + k, none⟩) hg2).trans hu
        show Gives _ _ _ (.int .i64 a) _
        refine Gives.val ?_
        go_simp
      rcases i with _ | i
      · obtain rfl := Option.some.inj ho
        have o0 : ρ (.tmp 0) = .slice (some ⟨g2, o2, none⟩) pn cap := hout (.tmp 0) rfl
        have ocn : ∀ v, ρ (.const v) = v := fun v => hout (.const v) rfl
        have ofn : ∀ f, ρ (.func f) = .func (.func f) #[] #[] := fun f => hout (.func f) rfl
        clear hdep hout
        refine .inl ⟨?_, ?_⟩
        · rfl
        show Gives _ _ _ (.slice (some ⟨g2, o2, none⟩) pn cap) _
        refine Gives.val ?_
        go_simp
      rcases i with _ | i
      · obtain rfl := Option.some.inj ho
        have o5 : ρ (.tmp 5) = .pointer (some ⟨x0.heap.size + 1 + 1, 0, none⟩) := hout (.tmp 5) rfl
        have ocn : ∀ v, ρ (.const v) = v := fun v => hout (.const v) rfl
        have ofn : ∀ f, ρ (.func f) = .func (.func f) #[] #[] := fun f => hout (.func f) rfl
        clear hdep hout
        refine .inl ⟨?_, ?_⟩
        · rfl
        show Gives _ _ _ (.pointer (some ⟨x0.heap.size + 1 + 1, 0, none⟩)) _
        refine Gives.val ?_
        go_simp
      rcases i with _ | i
      · obtain rfl := Option.some.inj ho
        have e3 : ρ (.tmp 17) = .pointer (some ⟨x0.heap.size + 1 + 1, 0, none⟩) := (hdep ⟨3, .data⟩ (by simp) rfl).1 17 rfl
        have ocn : ∀ v, ρ (.const v) = v := fun v => hout (.const v) rfl
        have ofn : ∀ f, ρ (.func f) = .func (.func f) #[] #[] := fun f => hout (.func f) rfl
        clear hdep hout
        refine .inl ⟨?_, ?_⟩
        · rfl
        have kb := K2.out.later hBx
        have f0 := kb.c 0 _ rfl
        have f2 := kb.c 2 _ rfl
        have fl0 := kb.lt
        have hbz := HXB.out.trans (hBx.mono HXB.out.size)
        have hcu := (hbz.cell (p := ⟨g2, o2 + k, none⟩) hg2).trans hu
        show Gives _ _ _ (.int .i64 k) _
        refine Gives.val ?_
        go_simp
      rcases i with _ | i
      · obtain rfl := Option.some.inj ho
        have e2 : ρ (.tmp 16) = .slice (some ⟨g2, o2, none⟩) pn cap := (hdep ⟨2, .data⟩ (by simp) rfl).1 16 rfl
        have e4 : ρ (.tmp 18) = .int .i64 k := (hdep ⟨4, .data⟩ (by simp) rfl).1 18 rfl
        have ocn : ∀ v, ρ (.const v) = v := fun v => hout (.const v) rfl
        have ofn : ∀ f, ρ (.func f) = .func (.func f) #[] #[] := fun f => hout (.func f) rfl
        clear hdep hout
        refine .inl ⟨?_, ?_⟩
        · rfl
        show Gives _ _ _ (.pointer (some ⟨g2, o2 + k, none⟩)) _
        refine Gives.val ?_
        go_simp
      rcases i with _ | i
      · obtain rfl := Option.some.inj ho
        have e5 : ρ (.tmp 19) = .pointer (some ⟨g2, o2 + k, none⟩) := (hdep ⟨5, .data⟩ (by simp) rfl).1 19 rfl
        have ocn : ∀ v, ρ (.const v) = v := fun v => hout (.const v) rfl
        have ofn : ∀ f, ρ (.func f) = .func (.func f) #[] #[] := fun f => hout (.func f) rfl
        clear hdep hout
        refine .inl ⟨?_, ?_⟩
        · rfl
        show Gives _ _ _ (.pointer (some ⟨g2, o2 + k, none⟩)) _
        refine Gives.val ?_
        go_simp
      rcases i with _ | i
      · obtain rfl := Option.some.inj ho
        have e6 : ρ (.tmp 20) = .pointer (some ⟨g2, o2 + k, none⟩) := (hdep ⟨6, .data⟩ (by simp) rfl).1 20 rfl
        have ocn : ∀ v, ρ (.const v) = v := fun v => hout (.const v) rfl
        have ofn : ∀ f, ρ (.func f) = .func (.func f) #[] #[] := fun f => hout (.func f) rfl
        clear hdep hout
        refine .inl ⟨?_, ?_⟩
        · rfl
        have kb := K2.out.later hBx
        have f0 := kb.c 0 _ rfl
        have f2 := kb.c 2 _ rfl
        have fl0 := kb.lt
        have hbz := HXB.out.trans (hBx.mono HXB.out.size)
        have hcu := (hbz.cell (p := ⟨g2, o2 + k, none⟩) hg2).trans hu
        show Gives _ _ _ (.slice (some ⟨g3, o3, none⟩) cl ck) _
        refine Gives.val ?_
        go_simp
      rcases i with _ | i
      · obtain rfl := Option.some.inj ho
        have e7 : ρ (.tmp 21) = .slice (some ⟨g3, o3, none⟩) cl ck := (hdep ⟨7, .data⟩ (by simp) rfl).1 21 rfl
        have ocn : ∀ v, ρ (.const v) = v := fun v => hout (.const v) rfl
        have ofn : ∀ f, ρ (.func f) = .func (.func f) #[] #[] := fun f => hout (.func f) rfl
        clear hdep hout
        refine .inl ⟨?_, ?_⟩
        · rfl
        show Gives _ _ _ (.int .i64 cl) _
        refine Gives.val ?_
        go_simp
      rcases i with _ | i
      · obtain rfl := Option.some.inj ho
        have e1 : ρ (.tmp 15) = .int .i64 a := (hdep ⟨1, .data⟩ (by simp) rfl).1 15 rfl
        have e8 : ρ (.tmp 22) = .int .i64 cl := (hdep ⟨8, .data⟩ (by simp) rfl).1 22 rfl
        have ocn : ∀ v, ρ (.const v) = v := fun v => hout (.const v) rfl
        have ofn : ∀ f, ρ (.func f) = .func (.func f) #[] #[] := fun f => hout (.func f) rfl
        clear hdep hout
        refine .inl ⟨?_, ?_⟩
        · rfl
        show Gives _ _ _ (.bool false) _
        refine Gives.val ?_
        go_simp
      cases ho
    case fin =>
      intro y hBy
      have HY : Hid (Below x0.heap.size x0 y) := HXB.out.trans (hBy.mono HXB.out.size)
      have L1 := K1.out.laterH hBy
      have L2 := K2.out.laterH hBy
      clear hBy K1 K2 HXB
      go_wp2_with fail
      refine wp_region_store (by kernel_rfl) (by kernel_rfl) (by kernel_rfl) (by kernel_rfl) 10 (by kernel_rfl) (by kernel_rfl) _ rfl (fun j => [(fun v _ => v = .slice (some ⟨g2, o2, none⟩) pn cap), (fun v _ => v = .pointer (some ⟨x0.heap.size + 1 + 1, 0, none⟩)), (fun v _ => v = .int .i64 k), (fun v _ => v = .pointer (some ⟨g2, o2 + k, none⟩)), (fun v _ => v = .pointer (some ⟨g2, o2 + k, none⟩)), (fun v _ => v = .slice (some ⟨g3, o3, none⟩) cl ck), (fun v _ => v = .pointer (some ⟨x0.heap.size + 1 + 1, 2, none⟩)), (fun v _ => v = .int .i64 a), (fun v _ => v = .pointer (some ⟨g3, o3 + a * 4, none⟩)), (fun v _ => v = .agg #[.int .i64 I.1, .int .i64 I.2.1, .int .i64 I.2.2.1, .int .i64 I.2.2.2])].getD j (fun _ _ => True)) ?stable y ((Below.refl _ _).drew) ?step (fun V => ⟨List.toArray ((.slice (some ⟨g2, o2, none⟩) pn cap) :: (.agg #[.slice (some ⟨g, o, none⟩) fn cs, .int .i64 n1, .int .i64 n2, .int .i64 n3, .int .i64 n4, .int .i64 n5, .int .i64 n6]) :: (undef) :: (.pointer (some ⟨x0.heap.size, 0, none⟩)) :: (.pointer (some ⟨x0.heap.size + 1, 0, none⟩)) :: (.pointer (some ⟨x0.heap.size + 1 + 1, 0, none⟩)) :: (.pointer (some ⟨x0.heap.size, 0, none⟩)) :: (.slice (some ⟨g, o, none⟩) fn cs) :: (.pointer (some ⟨x0.heap.size, 0, none⟩)) :: (.slice (some ⟨g, o, none⟩) fn cs) :: (.int .i64 ↑fn) :: (.int .i64 ↑q) :: (.pointer (some ⟨g, o + q * 6, none⟩)) :: (.agg #[.int .i64 ↑k, .int .i64 m1, .int .i64 ↑a, .slice p3 rn k3, .slice p4 cn k4, .int .i64 m5]) :: (.pointer (some ⟨x0.heap.size + 1 + 1, 2, none⟩)) :: (.int .i64 a) :: (.slice (some ⟨g2, o2, none⟩) pn cap) :: (.pointer (some ⟨x0.heap.size + 1 + 1, 0, none⟩)) :: (.int .i64 k) :: (.pointer (some ⟨g2, o2 + k, none⟩)) :: (.pointer (some ⟨g2, o2 + k, none⟩)) :: (.slice (some ⟨g3, o3, none⟩) cl ck) :: (.int .i64 cl) :: (.bool false) :: (undef) :: (V 0) :: (V 1) :: (V 2) :: (V 3) :: (V 4) :: (V 5) :: (V 6) :: (V 7) :: (V 8) :: (V 9) :: []), []⟩) (fun V => by kernel_rfl) ?last
      case stable =>
        intro i v x y ht hb
        rcases i with _ | i
        · exact ht
        rcases i with _ | i
        · exact ht
        rcases i with _ | i
        · exact ht
        rcases i with _ | i
        · exact ht
        rcases i with _ | i
        · exact ht
        rcases i with _ | i
        · exact ht
        rcases i with _ | i
        · exact ht
        rcases i with _ | i
        · exact ht
        rcases i with _ | i
        · exact ht
        rcases i with _ | i
        · exact ht
        exact trivial
      case step =>
        intro i o hin ho ρ y x hBx hdep hout
        rcases i with _ | i
        · obtain rfl := Option.some.inj ho
          have o0 : ρ (.tmp 0) = .slice (some ⟨g2, o2, none⟩) pn cap := hout (.tmp 0) rfl
          have ocn : ∀ v, ρ (.const v) = v := fun v => hout (.const v) rfl
          have ofn : ∀ f, ρ (.func f) = .func (.func f) #[] #[] := fun f => hout (.func f) rfl
          clear hdep hout
          refine .inl ⟨rfl, ?_⟩
          show GivesP _ _ _ (fun v _ => v = .slice (some ⟨g2, o2, none⟩) pn cap) _
          refine GivesP.val (.slice (some ⟨g2, o2, none⟩) pn cap) rfl ?_
          go_simp
        rcases i with _ | i
        · obtain rfl := Option.some.inj ho
          have o5 : ρ (.tmp 5) = .pointer (some ⟨x0.heap.size + 1 + 1, 0, none⟩) := hout (.tmp 5) rfl
          have ocn : ∀ v, ρ (.const v) = v := fun v => hout (.const v) rfl
          have ofn : ∀ f, ρ (.func f) = .func (.func f) #[] #[] := fun f => hout (.func f) rfl
          clear hdep hout
          refine .inl ⟨rfl, ?_⟩
          have kb := L2.out.later hBx
          have f0 := kb.c 0 _ rfl
          have f2 := kb.c 2 _ rfl
          have fl0 := kb.lt
          have hbz := HY.out.trans (hBx.mono HY.out.size)
          have hcu := (hbz.cell (p := ⟨g2, o2 + k, none⟩) hg2).trans hu
          have i0 := (hbz.cell (p := ⟨g3, o3 + a * 4, none⟩) hg3).trans q0
          have i1 := (hbz.cell (p := ⟨g3, o3 + a * 4 + 1, none⟩) hg3).trans q1
          have i2 := (hbz.cell (p := ⟨g3, o3 + a * 4 + 2, none⟩) hg3).trans q2
          have i3 := (hbz.cell (p := ⟨g3, o3 + a * 4 + 3, none⟩) hg3).trans q3
          show GivesP _ _ _ (fun v _ => v = .pointer (some ⟨x0.heap.size + 1 + 1, 0, none⟩)) _
          refine GivesP.val (.pointer (some ⟨x0.heap.size + 1 + 1, 0, none⟩)) rfl ?_
          go_simp
        rcases i with _ | i
        · obtain rfl := Option.some.inj ho
          have e1 : ρ (.tmp 26) = .pointer (some ⟨x0.heap.size + 1 + 1, 0, none⟩) := (hdep ⟨1, .data⟩ (by simp) rfl 26 rfl).1
          have ocn : ∀ v, ρ (.const v) = v := fun v => hout (.const v) rfl
          have ofn : ∀ f, ρ (.func f) = .func (.func f) #[] #[] := fun f => hout (.func f) rfl
          clear hdep hout
          refine .inl ⟨rfl, ?_⟩
          have kb := L2.out.later hBx
          have f0 := kb.c 0 _ rfl
          have f2 := kb.c 2 _ rfl
          have fl0 := kb.lt
          have hbz := HY.out.trans (hBx.mono HY.out.size)
          have hcu := (hbz.cell (p := ⟨g2, o2 + k, none⟩) hg2).trans hu
          have i0 := (hbz.cell (p := ⟨g3, o3 + a * 4, none⟩) hg3).trans q0
          have i1 := (hbz.cell (p := ⟨g3, o3 + a * 4 + 1, none⟩) hg3).trans q1
          have i2 := (hbz.cell (p := ⟨g3, o3 + a * 4 + 2, none⟩) hg3).trans q2
          have i3 := (hbz.cell (p := ⟨g3, o3 + a * 4 + 3, none⟩) hg3).trans q3
          show GivesP _ _ _ (fun v _ => v = .int .i64 k) _
          refine GivesP.val (.int .i64 k) rfl ?_
          go_simp
        rcases i with _ | i
        · obtain rfl := Option.some.inj ho
          have e0 : ρ (.tmp 25) = .slice (some ⟨g2, o2, none⟩) pn cap := (hdep ⟨0, .data⟩ (by simp) rfl 25 rfl).1
          have e2 : ρ (.tmp 27) = .int .i64 k := (hdep ⟨2, .data⟩ (by simp) rfl 27 rfl).1
          have ocn : ∀ v, ρ (.const v) = v := fun v => hout (.const v) rfl
          have ofn : ∀ f, ρ (.func f) = .func (.func f) #[] #[] := fun f => hout (.func f) rfl
          clear hdep hout
          refine .inl ⟨rfl, ?_⟩
          have kb := L2.out.later hBx
          have f0 := kb.c 0 _ rfl
          have f2 := kb.c 2 _ rfl
          have fl0 := kb.lt
          have hbz := HY.out.trans (hBx.mono HY.out.size)
          have hcu := (hbz.cell (p := ⟨g2, o2 + k, none⟩) hg2).trans hu
          have i0 := (hbz.cell (p := ⟨g3, o3 + a * 4, none⟩) hg3).trans q0
          have i1 := (hbz.cell (p := ⟨g3, o3 + a * 4 + 1, none⟩) hg3).trans q1
          have i2 := (hbz.cell (p := ⟨g3, o3 + a * 4 + 2, none⟩) hg3).trans q2
          have i3 := (hbz.cell (p := ⟨g3, o3 + a * 4 + 3, none⟩) hg3).trans q3
          show GivesP _ _ _ (fun v _ => v = .pointer (some ⟨g2, o2 + k, none⟩)) _
          refine GivesP.val (.pointer (some ⟨g2, o2 + k, none⟩)) rfl ?_
          go_simp
        rcases i with _ | i
        · obtain rfl := Option.some.inj ho
          have e3 : ρ (.tmp 28) = .pointer (some ⟨g2, o2 + k, none⟩) := (hdep ⟨3, .data⟩ (by simp) rfl 28 rfl).1
          have ocn : ∀ v, ρ (.const v) = v := fun v => hout (.const v) rfl
          have ofn : ∀ f, ρ (.func f) = .func (.func f) #[] #[] := fun f => hout (.func f) rfl
          clear hdep hout
          refine .inl ⟨rfl, ?_⟩
          have kb := L2.out.later hBx
          have f0 := kb.c 0 _ rfl
          have f2 := kb.c 2 _ rfl
          have fl0 := kb.lt
          have hbz := HY.out.trans (hBx.mono HY.out.size)
          have hcu := (hbz.cell (p := ⟨g2, o2 + k, none⟩) hg2).trans hu
          have i0 := (hbz.cell (p := ⟨g3, o3 + a * 4, none⟩) hg3).trans q0
          have i1 := (hbz.cell (p := ⟨g3, o3 + a * 4 + 1, none⟩) hg3).trans q1
          have i2 := (hbz.cell (p := ⟨g3, o3 + a * 4 + 2, none⟩) hg3).trans q2
          have i3 := (hbz.cell (p := ⟨g3, o3 + a * 4 + 3, none⟩) hg3).trans q3
          show GivesP _ _ _ (fun v _ => v = .pointer (some ⟨g2, o2 + k, none⟩)) _
          refine GivesP.val (.pointer (some ⟨g2, o2 + k, none⟩)) rfl ?_
          go_simp
        rcases i with _ | i
        · obtain rfl := Option.some.inj ho
          have e4 : ρ (.tmp 29) = .pointer (some ⟨g2, o2 + k, none⟩) := (hdep ⟨4, .data⟩ (by simp) rfl 29 rfl).1
          have ocn : ∀ v, ρ (.const v) = v := fun v => hout (.const v) rfl
          have ofn : ∀ f, ρ (.func f) = .func (.func f) #[] #[] := fun f => hout (.func f) rfl
          clear hdep hout
          refine .inl ⟨rfl, ?_⟩
          have kb := L2.out.later hBx
          have f0 := kb.c 0 _ rfl
          have f2 := kb.c 2 _ rfl
          have fl0 := kb.lt
          have hbz := HY.out.trans (hBx.mono HY.out.size)
          have hcu := (hbz.cell (p := ⟨g2, o2 + k, none⟩) hg2).trans hu
          have i0 := (hbz.cell (p := ⟨g3, o3 + a * 4, none⟩) hg3).trans q0
          have i1 := (hbz.cell (p := ⟨g3, o3 + a * 4 + 1, none⟩) hg3).trans q1
          have i2 := (hbz.cell (p := ⟨g3, o3 + a * 4 + 2, none⟩) hg3).trans q2
          have i3 := (hbz.cell (p := ⟨g3, o3 + a * 4 + 3, none⟩) hg3).trans q3
          show GivesP _ _ _ (fun v _ => v = .slice (some ⟨g3, o3, none⟩) cl ck) _
          refine GivesP.val (.slice (some ⟨g3, o3, none⟩) cl ck) rfl ?_
          go_simp
        rcases i with _ | i
        · obtain rfl := Option.some.inj ho
          have o5 : ρ (.tmp 5) = .pointer (some ⟨x0.heap.size + 1 + 1, 0, none⟩) := hout (.tmp 5) rfl
          have ocn : ∀ v, ρ (.const v) = v := fun v => hout (.const v) rfl
          have ofn : ∀ f, ρ (.func f) = .func (.func f) #[] #[] := fun f => hout (.func f) rfl
          clear hdep hout
          refine .inl ⟨rfl, ?_⟩
          have kb := L2.out.later hBx
          have f0 := kb.c 0 _ rfl
          have f2 := kb.c 2 _ rfl
          have fl0 := kb.lt
          have hbz := HY.out.trans (hBx.mono HY.out.size)
          have hcu := (hbz.cell (p := ⟨g2, o2 + k, none⟩) hg2).trans hu
          have i0 := (hbz.cell (p := ⟨g3, o3 + a * 4, none⟩) hg3).trans q0
          have i1 := (hbz.cell (p := ⟨g3, o3 + a * 4 + 1, none⟩) hg3).trans q1
          have i2 := (hbz.cell (p := ⟨g3, o3 + a * 4 + 2, none⟩) hg3).trans q2
          have i3 := (hbz.cell (p := ⟨g3, o3 + a * 4 + 3, none⟩) hg3).trans q3
          show GivesP _ _ _ (fun v _ => v = .pointer (some ⟨x0.heap.size + 1 + 1, 2, none⟩)) _
          refine GivesP.val (.pointer (some ⟨x0.heap.size + 1 + 1, 2, none⟩)) rfl ?_
          go_simp
        rcases i with _ | i
        · obtain rfl := Option.some.inj ho
          have e6 : ρ (.tmp 31) = .pointer (some ⟨x0.heap.size + 1 + 1, 2, none⟩) := (hdep ⟨6, .data⟩ (by simp) rfl 31 rfl).1
          have ocn : ∀ v, ρ (.const v) = v := fun v => hout (.const v) rfl
          have ofn : ∀ f, ρ (.func f) = .func (.func f) #[] #[] := fun f => hout (.func f) rfl
          clear hdep hout
          refine .inl ⟨rfl, ?_⟩
          have kb := L2.out.later hBx
          have f0 := kb.c 0 _ rfl
          have f2 := kb.c 2 _ rfl
          have fl0 := kb.lt
          have hbz := HY.out.trans (hBx.mono HY.out.size)
          have hcu := (hbz.cell (p := ⟨g2, o2 + k, none⟩) hg2).trans hu
          have i0 := (hbz.cell (p := ⟨g3, o3 + a * 4, none⟩) hg3).trans q0
          have i1 := (hbz.cell (p := ⟨g3, o3 + a * 4 + 1, none⟩) hg3).trans q1
          have i2 := (hbz.cell (p := ⟨g3, o3 + a * 4 + 2, none⟩) hg3).trans q2
          have i3 := (hbz.cell (p := ⟨g3, o3 + a * 4 + 3, none⟩) hg3).trans q3
          show GivesP _ _ _ (fun v _ => v = .int .i64 a) _
          refine GivesP.val (.int .i64 a) rfl ?_
          go_simp
        rcases i with _ | i
        · obtain rfl := Option.some.inj ho
          have e5 : ρ (.tmp 30) = .slice (some ⟨g3, o3, none⟩) cl ck := (hdep ⟨5, .data⟩ (by simp) rfl 30 rfl).1
          have e7 : ρ (.tmp 32) = .int .i64 a := (hdep ⟨7, .data⟩ (by simp) rfl 32 rfl).1
          have ocn : ∀ v, ρ (.const v) = v := fun v => hout (.const v) rfl
          have ofn : ∀ f, ρ (.func f) = .func (.func f) #[] #[] := fun f => hout (.func f) rfl
          clear hdep hout
          refine .inl ⟨rfl, ?_⟩
          have kb := L2.out.later hBx
          have f0 := kb.c 0 _ rfl
          have f2 := kb.c 2 _ rfl
          have fl0 := kb.lt
          have hbz := HY.out.trans (hBx.mono HY.out.size)
          have hcu := (hbz.cell (p := ⟨g2, o2 + k, none⟩) hg2).trans hu
          have i0 := (hbz.cell (p := ⟨g3, o3 + a * 4, none⟩) hg3).trans q0
          have i1 := (hbz.cell (p := ⟨g3, o3 + a * 4 + 1, none⟩) hg3).trans q1
          have i2 := (hbz.cell (p := ⟨g3, o3 + a * 4 + 2, none⟩) hg3).trans q2
          have i3 := (hbz.cell (p := ⟨g3, o3 + a * 4 + 3, none⟩) hg3).trans q3
          show GivesP _ _ _ (fun v _ => v = .pointer (some ⟨g3, o3 + a * 4, none⟩)) _
          refine GivesP.val (.pointer (some ⟨g3, o3 + a * 4, none⟩)) rfl ?_
          go_simp
        rcases i with _ | i
        · obtain rfl := Option.some.inj ho
          have e8 : ρ (.tmp 33) = .pointer (some ⟨g3, o3 + a * 4, none⟩) := (hdep ⟨8, .data⟩ (by simp) rfl 33 rfl).1
          have ocn : ∀ v, ρ (.const v) = v := fun v => hout (.const v) rfl
          have ofn : ∀ f, ρ (.func f) = .func (.func f) #[] #[] := fun f => hout (.func f) rfl
          clear hdep hout
          refine .inl ⟨rfl, ?_⟩
          have kb := L2.out.later hBx
          have f0 := kb.c 0 _ rfl
          have f2 := kb.c 2 _ rfl
          have fl0 := kb.lt
          have hbz := HY.out.trans (hBx.mono HY.out.size)
          have hcu := (hbz.cell (p := ⟨g2, o2 + k, none⟩) hg2).trans hu
          have i0 := (hbz.cell (p := ⟨g3, o3 + a * 4, none⟩) hg3).trans q0
          have i1 := (hbz.cell (p := ⟨g3, o3 + a * 4 + 1, none⟩) hg3).trans q1
          have i2 := (hbz.cell (p := ⟨g3, o3 + a * 4 + 2, none⟩) hg3).trans q2
          have i3 := (hbz.cell (p := ⟨g3, o3 + a * 4 + 3, none⟩) hg3).trans q3
          show GivesP _ _ _ (fun v _ => v = .agg #[.int .i64 I.1, .int .i64 I.2.1, .int .i64 I.2.2.1, .int .i64 I.2.2.2]) _
          refine GivesP.val (.agg #[.int .i64 I.1, .int .i64 I.2.1, .int .i64 I.2.2.1, .int .i64 I.2.2.2]) rfl ?_
          go_simp
        exact absurd hin (by omega)
      case last =>
        intro V x hBx hV
        have e9 : V 9 = .agg #[.int .i64 I.1, .int .i64 I.2.1, .int .i64 I.2.2.1, .int .i64 I.2.2.2] := hV 9 (by omega)
        clear hV
        have kr := L1.out.later hBx
        have r0 := kr.c 0 _ rfl
        have r1 := kr.c 1 _ rfl
        have r2 := kr.c 2 _ rfl
        have r3 := kr.c 3 _ rfl
        have z0 := kr.fz 0
        have z1 := kr.fz 1
        have z2 := kr.fz 2
        have z3 := kr.fz 3
        have rl := kr.lt
        have hBf := HY.out.trans (hBx.mono HY.out.size)
        clear kr L1 L2 HY hBx
        refine ⟨set4 x (x0.heap.size + 1) 0 (.int .i64 I.1) (.int .i64 I.2.1) (.int .i64 I.2.2.1) (.int .i64 I.2.2.2), ?_, ?_⟩
        · unfold set4
          go_simp
        · unfold set4
          go_wp2_with fail
          refine bodyPost_ret (v := .agg #[.int .i64 I.1, .int .i64 I.2.1, .int .i64 I.2.2.1, .int .i64 I.2.2.2]) (by simp [results, Try.results43, go_sem, r0, r1, r2, r3, z0, z1, z2, z3, rl]) rfl ⟨by rw [HN2.out]; rfl, ?_⟩
          repeat (refine Below.setCell ?_ (by simp <;> omega) _)
          exact hBf

set_option maxRecDepth 100000 in
set_option maxHeartbeats 8000000 in
theorem runAsks_spec (x0 : World) (B : Nat) (v : Value) (P : List (List I4)) (h : ProgAt x0 B v P) (s : Value) (F : List Fr) (hF : FrsAt x0 s F) (q : R6) :
    Calls Try.prog 20 #[v, aggRun s q] x0 fun e y => e = .returned (.bool (asksF P F q.1 q.2.1 q.2.2.1 q.2.2.2)) ∧ Below x0.heap.size x0 y := by
  obtain ⟨n1, n2, n3, n4, n5, n6⟩ := q
  obtain ⟨p, cap, rfl, _⟩ := h.shape
  obtain ⟨ps, cs, rfl, _⟩ := hF.shape
  unfold aggRun
  dsimp only
  have H : Hid (ProgAt x0 B (.slice p P.length cap) P) := h
  have HS : Hid (FrsAt x0 (.slice ps F.length cs) F) := hF
  have HAS : Hid (asksF P F n1 n2 n3 (n4, n5, n6) = (runF P F n1 n2 n3 (n4, n5, n6) && (decide (n2 = 0) && askF P F))) := rfl
  have HRK : Hid (∀ z : World, Below x0.heap.size x0 z → Calls Try.prog 24 #[.slice p P.length cap, .agg #[.slice ps F.length cs, .int .i64 n1, .int .i64 n2, .int .i64 n3, .int .i64 n4, .int .i64 n5, .int .i64 n6]] z fun e y => e = .returned (.bool (runF P F n1 n2 n3 (n4, n5, n6))) ∧ Below z.heap.size z y) := fun z hz => runOk_spec z B _ P (H.out.later hz) _ F (HS.out.later hz) (n1, n2, n3, n4, n5, n6)
  generalize asksF P F n1 n2 n3 (n4, n5, n6) = AS at HAS
  clear h hF
  cases hR : runF P F n1 n2 n3 (n4, n5, n6)
  · rw [hR] at HAS HRK
    clear H HS hR
    generalize F.length = fn at *
    generalize P.length = pn at *
    go_enter Try.func20, Try.ntmps20
    go_wp2_with fail
    have HAl : Hid (Below x0.heap.size x0 (x0.alloc (.cells #[.slice ps fn cs, .int .i64 n1, .int .i64 n2, .int .i64 n3, .int .i64 n4, .int .i64 n5, .int .i64 n6] 56))) := (Below.refl _ _).alloc (Nat.le_refl _) _
    refine (HRK.out _ HAl.out).mono ?_
    rintro e y ⟨rfl, hb⟩
    have HY : Hid (Below x0.heap.size x0 y) := HAl.out.trans (hb.mono HAl.out.size)
    clear hb HAl HRK
    go_wp2_with fail
    go_ret
    exact ⟨retBool (by rw [HAS.out]; rfl), HY.out⟩
  · rw [hR] at HAS HRK
    by_cases e0 : n2 = 0
    · subst e0
      obtain ⟨hok, hf0, hf5, hfr⟩ := runF_top hR
      have HNX : Hid (∀ z : World, Below x0.heap.size x0 z → Calls Try.prog 43 #[.slice p P.length cap, .agg #[.slice ps F.length cs, .int .i64 n1, .int .i64 0, .int .i64 n3, .int .i64 n4, .int .i64 n5, .int .i64 n6]] z fun e y => e = .returned (aggI (nextI P F)) ∧ Below z.heap.size z y) := fun z hz => l3Next_any z B _ P (H.out.later hz) _ F (HS.out.later hz) n1 0 n3 n4 n5 n6 hok hf0 hf5 hfr
      have HKI : Hid (AS = ((nextI P F).1 == 3)) := by show AS = _; rw [HAS.out, nextI_asks]; simp
      clear HAS hok hf0 hf5 hfr H HS hR
      generalize nextI P F = NI at HNX HKI
      obtain ⟨i1, i2, i3, i4⟩ := NI
      unfold aggI at HNX
      dsimp only at HNX HKI
      generalize F.length = fn at *
      generalize P.length = pn at *
      go_enter Try.func20, Try.ntmps20
      go_wp2_with fail
      have HAl : Hid (Below x0.heap.size x0 (x0.alloc (.cells #[.slice ps fn cs, .int .i64 n1, .int .i64 0, .int .i64 n3, .int .i64 n4, .int .i64 n5, .int .i64 n6] 56))) := (Below.refl _ _).alloc (Nat.le_refl _) _
      have K00 : Hid (BxN (x0.alloc (.cells #[.slice ps fn cs, .int .i64 n1, .int .i64 0, .int .i64 n3, .int .i64 n4, .int .i64 n5, .int .i64 n6] 56)) x0.heap.size [.slice ps fn cs, .int .i64 n1, .int .i64 0, .int .i64 n3, .int .i64 n4, .int .i64 n5, .int .i64 n6]) := BxN.new x0 [_, _, _, _, _, _, _] _
      refine (HRK.out _ HAl.out).mono ?_
      rintro e y ⟨rfl, hb⟩
      have HY : Hid (Below x0.heap.size x0 y) := HAl.out.trans (hb.mono HAl.out.size)
      have K1 := K00.out.laterH hb
      have b0 := K1.out.c 0 _ rfl
      have b1 := K1.out.c 1 _ rfl
      have b2 := K1.out.c 2 _ rfl
      have b3 := K1.out.c 3 _ rfl
      have b4 := K1.out.c 4 _ rfl
      have b5 := K1.out.c 5 _ rfl
      have b6 := K1.out.c 6 _ rfl
      have bl := K1.out.lt
      clear hb HAl HRK K00 K1
      go_wp2_with fail
      refine (HNX.out y HY.out).mono ?_
      rintro e z ⟨rfl, hb⟩
      have hB := HY.out.trans (hb.mono HY.out.size)
      clear hb HNX b0 b1 b2 b3 b4 b5 b6 bl HY
      have hfl : ∀ w : World, Sem.run Try.prog (Instr.field 86 (.agg #[.int .i64 i1, .int .i64 i2, .int .i64 i3, .int .i64 i4]) 0) w = .ok (.int .i64 i1) w := fun w => by kernel_rfl
      go_wp2_with fail
      go_ret
      exact ⟨retBool HKI.out.symm, hB⟩
    · have e0b : (n2 == 0) = false := by simpa using e0
      have HAS2 : Hid (AS = false) := by show AS = _; rw [HAS.out]; simp [e0]
      clear H HS hR HAS
      generalize F.length = fn at *
      generalize P.length = pn at *
      go_enter Try.func20, Try.ntmps20
      go_wp2_with fail
      have HAl : Hid (Below x0.heap.size x0 (x0.alloc (.cells #[.slice ps fn cs, .int .i64 n1, .int .i64 n2, .int .i64 n3, .int .i64 n4, .int .i64 n5, .int .i64 n6] 56))) := (Below.refl _ _).alloc (Nat.le_refl _) _
      have K00 : Hid (BxN (x0.alloc (.cells #[.slice ps fn cs, .int .i64 n1, .int .i64 n2, .int .i64 n3, .int .i64 n4, .int .i64 n5, .int .i64 n6] 56)) x0.heap.size [.slice ps fn cs, .int .i64 n1, .int .i64 n2, .int .i64 n3, .int .i64 n4, .int .i64 n5, .int .i64 n6]) := BxN.new x0 [_, _, _, _, _, _, _] _
      refine (HRK.out _ HAl.out).mono ?_
      rintro e y ⟨rfl, hb⟩
      have HY : Hid (Below x0.heap.size x0 y) := HAl.out.trans (hb.mono HAl.out.size)
      have K1 := K00.out.laterH hb
      have b2 := K1.out.c 2 _ rfl
      have bl := K1.out.lt
      clear hb HAl HRK K00 K1
      go_wp2_with fail
      go_ret
      exact ⟨retBool HAS2.out.symm, HY.out⟩

end Go.Proofs.Ytbjegekfghihkaa
