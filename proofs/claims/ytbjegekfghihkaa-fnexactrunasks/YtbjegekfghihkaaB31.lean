import Derived.Test.YtbjegekfghihkaaB27
import Derived.Test.YtbjegekfghihkaaB20
/-
  The laws' own helpers on runs: the same (eqFrame, eqFrameS, eqRun).
-/
namespace Go.Proofs.Ytbjegekfghihkaa
open Go.RowKit
set_option linter.unusedVariables false
set_option linter.unusedSimpArgs false

set_option maxRecDepth 100000 in
set_option maxHeartbeats 4000000 in
theorem eqFrame_any (x : World) (f : Fr) (u v u' v' : Value) (hu : IntsW x u f.r) (hv : IntsW x v f.c) (hu' : IntsW x u' f.r) (hv' : IntsW x v' f.c) :
    Calls Try.prog 70 #[aggFr f u v, aggFr f u' v'] x fun e y => e = .returned (.bool true) ∧ Below x.heap.size x y := by
  obtain ⟨n0, n1, n2, n5, R, C⟩ := f
  unfold aggFr
  simp only at hu hv hu' hv' ⊢
  obtain ⟨p, k, rfl⟩ := hu.shape
  obtain ⟨q, l, rfl⟩ := hv.shape
  obtain ⟨p', k', rfl⟩ := hu'.shape
  obtain ⟨q', l', rfl⟩ := hv'.shape
  have HU : Hid (IntsW x (.slice p R.length k) R) := hu
  have HV : Hid (IntsW x (.slice q C.length l) C) := hv
  have HU' : Hid (IntsW x (.slice p' R.length k') R) := hu'
  have HV' : Hid (IntsW x (.slice q' C.length l') C) := hv'
  clear hu hv hu' hv'
  generalize R.length = rn at *
  generalize C.length = cn at *
  go_enter Try.func70, Try.ntmps70
  go_wp2_with fail
  generalize hX : (x.alloc (.cells #[.int .i64 n0, .int .i64 n1, .int .i64 n2, .slice p rn k, .slice q cn l, .int .i64 n5] 99)).alloc (.cells #[.int .i64 n0, .int .i64 n1, .int .i64 n2, .slice p' rn k', .slice q' cn l', .int .i64 n5] 99) = X
  have HB : Hid (Below x.heap.size x X) := by show Below _ _ _; rw [← hX]; exact ((Below.refl _ _).alloc (Nat.le_refl _) _).alloc (by simp) _
  have hl1 : x.heap.size + 1 < X.heap.size := by rw [← hX]; simp
  have k4 : X.cell? ⟨x.heap.size, 4, none⟩ = some (.slice q cn l) := by rw [← hX]; simp [go_sem]
  have k5 : X.cell? ⟨x.heap.size, 5, none⟩ = some (.int .i64 n5) := by rw [← hX]; simp [go_sem]
  have j4 : X.cell? ⟨x.heap.size + 1, 4, none⟩ = some (.slice q' cn l') := by rw [← hX]; simp [go_sem]
  have j5 : X.cell? ⟨x.heap.size + 1, 5, none⟩ = some (.int .i64 n5) := by rw [← hX]; simp [go_sem]
  clear hX
  refine (eqIntS_same X false false _ _ _ _ _ _ _ (HU.out.later HB.out) (HU'.out.later HB.out)).mono ?_
  rintro e y ⟨rfl, hb⟩
  have hl0 : x.heap.size < X.heap.size := by omega
  have HYB : Hid (Below x.heap.size x y) := HB.out.trans (hb.mono HB.out.size)
  have k4' := (hb.cell (p := ⟨x.heap.size, 4, none⟩) hl0).trans k4
  have k5' := (hb.cell (p := ⟨x.heap.size, 5, none⟩) hl0).trans k5
  have j4' := (hb.cell (p := ⟨x.heap.size + 1, 4, none⟩) hl1).trans j4
  have j5' := (hb.cell (p := ⟨x.heap.size + 1, 5, none⟩) hl1).trans j5
  have hy1 : x.heap.size + 1 < y.heap.size := Nat.lt_of_lt_of_le hl1 hb.size
  have hy0 : x.heap.size < y.heap.size := by omega
  clear hb HB k4 k5 j4 j5 hl0 hl1
  go_wp2_with fail
  refine (eqIntS_same y false false _ _ _ _ _ _ _ (HV.out.later HYB.out) (HV'.out.later HYB.out)).mono ?_
  rintro e z ⟨rfl, hb⟩
  have hZB := HYB.out.trans (hb.mono HYB.out.size)
  have k5z := (hb.cell (p := ⟨x.heap.size, 5, none⟩) hy0).trans k5'
  have j5z := (hb.cell (p := ⟨x.heap.size + 1, 5, none⟩) hy1).trans j5'
  clear hb k4' k5' j4' j5' HYB
  go_wp2_with fail
  go_ret
  exact ⟨rfl, hZB⟩

end Go.Proofs.Ytbjegekfghihkaa

/-
  The laws' own helpers on runs: the same (eqFrameS, eqRun).
-/
namespace Go.Proofs.Ytbjegekfghihkaa
open Go.RowKit
set_option linter.unusedVariables false
set_option linter.unusedSimpArgs false

theorem eqFrame_at2 (x : World) (n0 n1 n2 n5 : Int) (R C : List Int) (u v u' v' : Value) (hu : IntsW x u R) (hv : IntsW x v C) (hu' : IntsW x u' R) (hv' : IntsW x v' C) :
    Calls Try.prog 70 #[.agg #[.int .i64 n0, .int .i64 n1, .int .i64 n2, u, v, .int .i64 n5], .agg #[.int .i64 n0, .int .i64 n1, .int .i64 n2, u', v', .int .i64 n5]] x fun e y => e = .returned (.bool true) ∧ Below x.heap.size x y :=
  eqFrame_any x ⟨n0, n1, n2, n5, R, C⟩ u v u' v' hu hv hu' hv'
theorem keepF {w y : World} {g o g' o' k rn cn k1 k2 k3 k4 : Nat} {p1 p2 p3 p4 : Option Addr} {n0 n1 n2 n5 : Int} (h : (fun z : World => z.cell? ⟨g, o + k * 6, none⟩ = some (.int .i64 n0) ∧ z.cell? ⟨g, o + k * 6 + 1, none⟩ = some (.int .i64 n1) ∧ z.cell? ⟨g, o + k * 6 + 2, none⟩ = some (.int .i64 n2) ∧ z.cell? ⟨g, o + k * 6 + 3, none⟩ = some (.slice p1 rn k1) ∧ z.cell? ⟨g, o + k * 6 + 4, none⟩ = some (.slice p2 cn k2) ∧ z.cell? ⟨g, o + k * 6 + 5, none⟩ = some (.int .i64 n5) ∧ z.cell? ⟨g', o' + k * 6, none⟩ = some (.int .i64 n0) ∧ z.cell? ⟨g', o' + k * 6 + 1, none⟩ = some (.int .i64 n1) ∧ z.cell? ⟨g', o' + k * 6 + 2, none⟩ = some (.int .i64 n2) ∧ z.cell? ⟨g', o' + k * 6 + 3, none⟩ = some (.slice p3 rn k3) ∧ z.cell? ⟨g', o' + k * 6 + 4, none⟩ = some (.slice p4 cn k4) ∧ z.cell? ⟨g', o' + k * 6 + 5, none⟩ = some (.int .i64 n5)) w) (hb : Below w.heap.size w y) (hg : g < w.heap.size) (hg' : g' < w.heap.size) : (fun z : World => z.cell? ⟨g, o + k * 6, none⟩ = some (.int .i64 n0) ∧ z.cell? ⟨g, o + k * 6 + 1, none⟩ = some (.int .i64 n1) ∧ z.cell? ⟨g, o + k * 6 + 2, none⟩ = some (.int .i64 n2) ∧ z.cell? ⟨g, o + k * 6 + 3, none⟩ = some (.slice p1 rn k1) ∧ z.cell? ⟨g, o + k * 6 + 4, none⟩ = some (.slice p2 cn k2) ∧ z.cell? ⟨g, o + k * 6 + 5, none⟩ = some (.int .i64 n5) ∧ z.cell? ⟨g', o' + k * 6, none⟩ = some (.int .i64 n0) ∧ z.cell? ⟨g', o' + k * 6 + 1, none⟩ = some (.int .i64 n1) ∧ z.cell? ⟨g', o' + k * 6 + 2, none⟩ = some (.int .i64 n2) ∧ z.cell? ⟨g', o' + k * 6 + 3, none⟩ = some (.slice p3 rn k3) ∧ z.cell? ⟨g', o' + k * 6 + 4, none⟩ = some (.slice p4 cn k4) ∧ z.cell? ⟨g', o' + k * 6 + 5, none⟩ = some (.int .i64 n5)) y := by
  obtain ⟨d0, d1, d2, d3, d4, d5, e0, e1, e2, e3, e4, e5⟩ := h
  exact ⟨(hb.cell (p := ⟨g, _, none⟩) hg).trans d0, (hb.cell (p := ⟨g, _, none⟩) hg).trans d1, (hb.cell (p := ⟨g, _, none⟩) hg).trans d2, (hb.cell (p := ⟨g, _, none⟩) hg).trans d3, (hb.cell (p := ⟨g, _, none⟩) hg).trans d4, (hb.cell (p := ⟨g, _, none⟩) hg).trans d5, (hb.cell (p := ⟨g', _, none⟩) hg').trans e0, (hb.cell (p := ⟨g', _, none⟩) hg').trans e1, (hb.cell (p := ⟨g', _, none⟩) hg').trans e2, (hb.cell (p := ⟨g', _, none⟩) hg').trans e3, (hb.cell (p := ⟨g', _, none⟩) hg').trans e4, (hb.cell (p := ⟨g', _, none⟩) hg').trans e5⟩
set_option maxRecDepth 100000 in
set_option maxHeartbeats 4000000 in
theorem eqFrameS_any (x : World) (v u : Value) (F : List Fr) (h : FrsAt x v F) (h' : FrsAt x u F) :
    Calls Try.prog 47 #[v, u] x fun e y => e = .returned (.bool true) ∧ Below x.heap.size x y := by
  obtain ⟨p, cap, rfl, hm, hc⟩ := h
  obtain ⟨p', cap', rfl, _, hc'⟩ := h'
  generalize hL : F.length = n at *
  unfold maxLen at hm
  have hni : (n : Int) ≤ 9223372036854775807 := by omega
  clear hL hm
  go_enter Try.func47, Try.ntmps47
  go_wp2_with fail
  go_loopw [5] (fun t y => ∃ k : Nat, k ≤ n ∧ t = .int .i64 k ∧ Below x.heap.size x y) (fun t _ => n - (intOf t).toNat)
  case atStart => exact ⟨0, by omega, rfl, Below.refl _ _⟩
  case round =>
    obtain ⟨k, hk, rfl, hB⟩ := hrel
    by_cases hlt : k < n
    · rcases hc with h0 | ⟨g, o, rfl, hgx, hins⟩
      · omega
      rcases hc' with h0 | ⟨g', o', rfl, hgx', hins'⟩
      · omega
      have hki : (k : Int) < (n : Int) := by omega
      obtain ⟨d0, d1, d2, ⟨u3, d3, i3⟩, ⟨u4, d4, i4⟩, d5⟩ := (hins k hlt).later hB hgx
      obtain ⟨e0, e1, e2, ⟨u3', e3, i3'⟩, ⟨u4', e4, i4'⟩, e5⟩ := (hins' k hlt).later hB hgx'
      clear hins hins'
      generalize F.getD k fr0 = f at *
      obtain ⟨n0, n1, n2, n5, R, C⟩ := f
      simp only at d0 d1 d2 d3 d4 d5 e0 e1 e2 e3 e4 e5 i3 i4 i3' i4'
      obtain ⟨p1, k1, rfl⟩ := i3.shape
      obtain ⟨p2, k2, rfl⟩ := i4.shape
      obtain ⟨p3, k3, rfl⟩ := i3'.shape
      obtain ⟨p4, k4, rfl⟩ := i4'.shape
      have I1 : Hid (IntsW wr (.slice p1 R.length k1) R) := i3
      have I2 : Hid (IntsW wr (.slice p2 C.length k2) C) := i4
      have I3 : Hid (IntsW wr (.slice p3 R.length k3) R) := i3'
      have I4 : Hid (IntsW wr (.slice p4 C.length k4) C) := i4'
      clear i3 i4 i3' i4'
      generalize R.length = rn at *
      generalize C.length = cn at *
      have hgw : g < wr.heap.size := Nat.lt_of_lt_of_le hgx hB.size
      have hgw' : g' < wr.heap.size := Nat.lt_of_lt_of_le hgx' hB.size
      go_wp2_with fail
      go_region_held3 (fun z => z.cell? ⟨g, o + k * 6, none⟩ = some (.int .i64 n0) ∧ z.cell? ⟨g, o + k * 6 + 1, none⟩ = some (.int .i64 n1) ∧ z.cell? ⟨g, o + k * 6 + 2, none⟩ = some (.int .i64 n2) ∧ z.cell? ⟨g, o + k * 6 + 3, none⟩ = some (.slice p1 rn k1) ∧ z.cell? ⟨g, o + k * 6 + 4, none⟩ = some (.slice p2 cn k2) ∧ z.cell? ⟨g, o + k * 6 + 5, none⟩ = some (.int .i64 n5) ∧ z.cell? ⟨g', o' + k * 6, none⟩ = some (.int .i64 n0) ∧ z.cell? ⟨g', o' + k * 6 + 1, none⟩ = some (.int .i64 n1) ∧ z.cell? ⟨g', o' + k * 6 + 2, none⟩ = some (.int .i64 n2) ∧ z.cell? ⟨g', o' + k * 6 + 3, none⟩ = some (.slice p3 rn k3) ∧ z.cell? ⟨g', o' + k * 6 + 4, none⟩ = some (.slice p4 cn k4) ∧ z.cell? ⟨g', o' + k * 6 + 5, none⟩ = some (.int .i64 n5)) (first | (with_reducible assumption) | exact ⟨d0, d1, d2, d3, d4, d5, e0, e1, e2, e3, e4, e5⟩ | fail) ((go_at_call 70; refine (eqFrame_at2 _ n0 n1 n2 n5 R C _ _ _ _ (I1.out.later (Below.drew (Below.refl _ _))) (I2.out.later (Below.drew (Below.refl _ _))) (I3.out.later (Below.drew (Below.refl _ _))) (I4.out.later (Below.drew (Below.refl _ _)))).mono ?_; rintro e w2 ⟨rfl, hb2⟩; have hS2 := keepF (w := wr.drew) (o := o) (o' := o') (k := k) ⟨d0, d1, d2, d3, d4, d5, e0, e1, e2, e3, e4, e5⟩ hb2 hgw hgw'))
      have hB2 : Below x.heap.size x w2 := hB.trans ((Below.drew (Below.refl _ _)).trans (hb2.mono (by simp)) |>.mono hB.size)
      go_wp2_with fail
      go_roundw
      case rel => exact ⟨k + 1, by omega, by go_num, hB2⟩
      case measure => simp [intOf]; omega
    · obtain rfl : k = n := by omega
      have hki : ¬ (k : Int) < (k : Int) := by omega
      go_wp2_with fail
      go_ret
      exact ⟨rfl, hB⟩

set_option maxRecDepth 100000 in
set_option maxHeartbeats 4000000 in
theorem eqRun_any (x : World) (s s' : Value) (F : List Fr) (h : FrsAt x s F) (h' : FrsAt x s' F) (q : R6) :
    Calls Try.prog 23 #[aggRun s q, aggRun s' q] x fun e y => e = .returned (.bool true) ∧ Below x.heap.size x y := by
  obtain ⟨n1, n2, n3, n4, n5, n6⟩ := q
  unfold aggRun
  dsimp only
  obtain ⟨p, cap, rfl, _⟩ := h.shape
  obtain ⟨p', cap', rfl, _⟩ := h'.shape
  have H1 : Hid (FrsAt x (.slice p F.length cap) F) := h
  have H2 : Hid (FrsAt x (.slice p' F.length cap') F) := h'
  clear h h'
  generalize F.length = n at *
  go_enter Try.func23, Try.ntmps23
  go_wp2_with fail
  generalize hX : (x.alloc (.cells #[.slice p n cap, .int .i64 n1, .int .i64 n2, .int .i64 n3, .int .i64 n4, .int .i64 n5, .int .i64 n6] 56)).alloc (.cells #[.slice p' n cap', .int .i64 n1, .int .i64 n2, .int .i64 n3, .int .i64 n4, .int .i64 n5, .int .i64 n6] 56) = X
  have HB : Hid (Below x.heap.size x X) := by show Below _ _ _; rw [← hX]; exact ((Below.refl _ _).alloc (Nat.le_refl _) _).alloc (by simp) _
  have K0 : Hid (BxN X x.heap.size [.slice p n cap, .int .i64 n1, .int .i64 n2, .int .i64 n3, .int .i64 n4, .int .i64 n5, .int .i64 n6]) := by
    show BxN _ _ _; rw [← hX]; exact (BxN.new x [_, _, _, _, _, _, _] _).later ((Below.refl _ _).alloc (Nat.le_refl _) _)
  have K1 : Hid (BxN X (x.heap.size + 1) [.slice p' n cap', .int .i64 n1, .int .i64 n2, .int .i64 n3, .int .i64 n4, .int .i64 n5, .int .i64 n6]) := by
    show BxN _ _ _; rw [← hX]
    have := BxN.new (x.alloc (.cells #[.slice p n cap, .int .i64 n1, .int .i64 n2, .int .i64 n3, .int .i64 n4, .int .i64 n5, .int .i64 n6] 56)) [.slice p' n cap', .int .i64 n1, .int .i64 n2, .int .i64 n3, .int .i64 n4, .int .i64 n5, .int .i64 n6] 56
    simpa using this
  clear hX
  refine (eqFrameS_any X _ _ F (H1.out.later HB.out) (H2.out.later HB.out)).mono ?_
  rintro e y ⟨rfl, hb⟩
  have HB1 : Hid (Below x.heap.size x y) := HB.out.trans (hb.mono HB.out.size)
  have J0 := K0.out.laterH hb
  have J1 := K1.out.laterH hb
  clear hb K0 K1 HB H1 H2
  have a1 := J0.out.c 1 _ rfl
  have a2 := J0.out.c 2 _ rfl
  have a3 := J0.out.c 3 _ rfl
  have a4 := J0.out.c 4 _ rfl
  have a5 := J0.out.c 5 _ rfl
  have a6 := J0.out.c 6 _ rfl
  have b1 := J1.out.c 1 _ rfl
  have b2 := J1.out.c 2 _ rfl
  have b3 := J1.out.c 3 _ rfl
  have b4 := J1.out.c 4 _ rfl
  have b5 := J1.out.c 5 _ rfl
  have b6 := J1.out.c 6 _ rfl
  have l0 := J0.out.lt
  have l1 := J1.out.lt
  clear J0 J1
  go_wp2_with fail
  refine (eqSite_at n4 n5 n6 _).mono ?_
  rintro e z ⟨rfl, hb⟩
  have hZB := HB1.out.trans (hb.mono HB1.out.size)
  clear hb a1 a2 a3 a4 a5 a6 b1 b2 b3 b4 b5 b6
  go_wp2_with fail
  go_ret
  exact ⟨rfl, hZB⟩

end Go.Proofs.Ytbjegekfghihkaa
