/-
  Whether a frame is ok: the contract of the program's frameOk.
-/
import Derived.Test.YtifpijindmdboaaRWd
import Derived.Test.YtifpijindmdboaaRTo
import Derived.Test.YtifpijindmdboaaFHas
namespace Go.Proofs.Ytifpijindmdboaa
open Go.RowKit
set_option linter.unusedVariables false
set_option linter.unusedSimpArgs false

set_option maxRecDepth 100000 in
set_option maxHeartbeats 4000000 in
theorem frameOk_impl (x : World) (B : Nat) (v : Value) (P : List (List I4)) (h : ProgAt x B v P) (hok : progOkF P = true) (f : Fr) (a b : Value) (ha : IntsW x a f.r) (hb : IntsW x b f.c) :
    Calls Try.prog 76 #[v, aggFr f a b] x fun e y => e = .returned (.bool (frameF P f)) ∧ Below x.heap.size x y := by
  obtain ⟨n0, n1, n2, n5, R, C⟩ := f
  unfold aggFr
  simp only at ha hb ⊢
  obtain ⟨p, cap, rfl, _⟩ := h.shape
  obtain ⟨pa, ka, rfl⟩ := ha.shape
  obtain ⟨pb, kb, rfl⟩ := hb.shape
  have H : Hid (ProgAt x B (.slice p P.length cap) P) := h
  have HA : Hid (IntsW x (.slice pa R.length ka) R) := ha
  have HB : Hid (IntsW x (.slice pb C.length kb) C) := hb
  have hl := progOkF_len hok
  have HOK : Hid (progOkF P = true) := hok
  have hn4 : (P.length : Int) ≤ 4 := by omega
  have HFr : Hid (frameF P ⟨n0, n1, n2, n5, R, C⟩ = (inI n0 0 (P.length - 1) && wdF n1 && inI n2 0 (P.getD n0.toNat []).length && wordsF R && wordsF C && inI n5 0 2)) := rfl
  generalize hFF : frameF P ⟨n0, n1, n2, n5, R, C⟩ = FF at HFr
  clear hFF h ha hb hok
  generalize hrn : R.length = rn at *
  generalize hcn : C.length = cn at *
  generalize hpn : P.length = pn at *
  have HPN : Hid (P.length = pn) := hpn
  clear hrn hcn hpn
  go_enter Try.func76, Try.ntmps76
  go_wp2_with fail
  generalize hX : (x.alloc (.cells #[.int .i64 n0, .int .i64 n1, .int .i64 n2, .slice pa rn ka, .slice pb cn kb, .int .i64 n5] 98)).alloc (.cells #[.int .i64 pn, .int .i64 0] 118) = X
  have HXB : Hid (Below x.heap.size x X) := by show Below _ _ _; rw [← hX]; exact ((Below.refl _ _).alloc (Nat.le_refl _) _).alloc (by simp) _
  have K0 : Hid (BxN X x.heap.size [.int .i64 n0, .int .i64 n1, .int .i64 n2, .slice pa rn ka, .slice pb cn kb, .int .i64 n5]) := by
    show BxN _ _ _; rw [← hX]; exact (BxN.new x [_, _, _, _, _, _] _).later ((Below.refl _ _).alloc (Nat.le_refl _) _)
  have K1 : Hid (BxN X (x.heap.size + 1) [.int .i64 pn, .int .i64 0]) := by
    show BxN _ _ _; rw [← hX]
    have := BxN.new (x.alloc (.cells #[.int .i64 n0, .int .i64 n1, .int .i64 n2, .slice pa rn ka, .slice pb cn kb, .int .i64 n5] 98)) [.int .i64 pn, .int .i64 0] 118
    simpa using this
  clear hX
  refine (hasProc_any pn 0 n0 X).mono ?_
  rintro e y ⟨rfl, hb⟩
  have HYB : Hid (Below x.heap.size x y) := HXB.out.trans (hb.mono HXB.out.size)
  have J0 := K0.out.laterH hb
  have J1 := K1.out.laterH hb
  clear hb K0 K1 HXB
  cases g1 : inI n0 0 (pn - 1)
  · go_wp2_with fail
    go_ret
    exact ⟨retBool (by rw [HFr.out, g1]; rfl), HYB.out⟩
  · obtain ⟨k, rfl, hk⟩ : ∃ k : Nat, n0 = k ∧ k < pn := by
      simp only [inI, Bool.and_eq_true, decide_eq_true_eq] at g1
      exact ⟨n0.toNat, by omega, by omega⟩
    have hk' : k < P.length := by rw [HPN.out]; exact hk
    have hc8 := (progOkF_code HOK.out hk').1
    have HP2 : Hid (ProgAt x B (.slice p P.length cap) P) := by show ProgAt _ _ _ _; rw [HPN.out]; exact H.out
    obtain ⟨g, o, uu, rfl, hg, hu, hc⟩ := HP2.out.code hk'
    obtain ⟨pk, ck, rfl, _⟩ := hc.shape
    have d0 := (HYB.out.cell (p := ⟨g, o + k, none⟩) hg).trans hu
    have HFr2 : Hid (FF = (wdF n1 && inI n2 0 (P.getD k []).length && wordsF R && wordsF C && inI n5 0 2)) := by
      show FF = _
      rw [HFr.out, g1]; simp
    clear HFr hc hu HP2 H g1 hk'
    generalize hcl : (P.getD k []).length = cl at *
    clear hcl
    have hki : (k : Int) < (pn : Int) := by omega
    have hc8i : (cl : Int) ≤ 8 := by omega
    have a0 := J0.out.c 0 _ rfl
    have a1 := J0.out.c 1 _ rfl
    have l0 := J0.out.lt
    have b1 := J1.out.c 1 _ rfl
    have fb1 := J1.out.fz 1
    have l1 := J1.out.lt
    go_wp2_with fail
    generalize hZ : y.setCell ⟨x.heap.size + 1, 1, none⟩ (.int .i64 cl) = Z
    have HZB : Hid (Below x.heap.size x Z) := by show Below _ _ _; rw [← hZ]; exact HYB.out.setCell (p := ⟨x.heap.size + 1, 1, none⟩) (by show x.heap.size ≤ x.heap.size + 1; omega) _
    have M0 := J0.out.offH hZ (by omega)
    have M1 := J1.out.setH hZ (by simp)
    clear hZ a0 a1 l0 b1 fb1 l1 J0 J1 HYB d0
    refine (isWord_e n1 _).mono ?_
    rintro e z ⟨rfl, hz⟩
    have hz2 := hz.symm
    subst hz2
    clear hz
    cases g2 : inI n1 (-16) 15
    · go_wp2_with fail
      go_ret
      exact ⟨retBool (by rw [HFr2.out, show wdF n1 = false from g2]; rfl), HZB.out⟩
    · have a2 := M0.out.c 2 _ rfl
      have b0 := M1.out.c 0 _ rfl
      have b1 := M1.out.c 1 _ rfl
      have l0 := M0.out.lt
      have l1 := M1.out.lt
      go_wp2_with fail
      refine (hasPlace_any pn cl n2 Z).mono ?_
      rintro e z2 ⟨rfl, hb⟩
      have HZ2 : Hid (Below x.heap.size x z2) := HZB.out.trans (hb.mono HZB.out.size)
      have N0 := M0.out.laterH hb
      clear hb a2 b0 b1 l0 l1 M0 M1 HZB
      cases g3 : inI n2 0 cl
      · go_wp2_with fail
        go_ret
        exact ⟨retBool (by rw [HFr2.out, show wdF n1 = true from g2, g3]; rfl), HZ2.out⟩
      · have a3 := N0.out.c 3 _ rfl
        have l0 := N0.out.lt
        go_wp2_with fail
        refine (areWords_any z2 _ R (HA.out.later HZ2.out)).mono ?_
        rintro e z3 ⟨rfl, hz⟩
        have hz2 := hz.symm
        subst hz2
        clear hz
        cases g4 : wordsF R
        · go_wp2_with fail
          go_ret
          exact ⟨retBool (by rw [HFr2.out, g4]; simp), HZ2.out⟩
        · have a4 := N0.out.c 4 _ rfl
          go_wp2_with fail
          refine (areWords_any z2 _ C (HB.out.later HZ2.out)).mono ?_
          rintro e z4 ⟨rfl, hz⟩
          have hz2 := hz.symm
          subst hz2
          clear hz
          cases g5 : wordsF C
          · go_wp2_with fail
            go_ret
            exact ⟨retBool (by rw [HFr2.out, g5]; simp), HZ2.out⟩
          · have a5 := N0.out.c 5 _ rfl
            go_wp2_with fail
            refine (isReg_any n5 z2).mono ?_
            rintro e z5 ⟨rfl, hz⟩
            have hz2 := hz.symm
            subst hz2
            clear hz
            go_wp2_with fail
            go_ret
            exact ⟨retBool (by rw [HFr2.out, show wdF n1 = true from g2, g3, g4, g5]; simp), HZ2.out⟩

end Go.Proofs.Ytifpijindmdboaa
