/-
  The contract of the laws' own helper that copies a whole run: toRun.
-/
import Derived.Test.YtifpijindmdboaaRTo
namespace Go.Proofs.Ytifpijindmdboaa
open Go.RowKit
set_option linter.unusedVariables false
set_option linter.unusedSimpArgs false

/-- a run's six numbers: its steps, its end, what it gave back, its site -/
abbrev R6 := Int × Int × Int × (Int × Int × Int)
/-- the value of a run -/
def aggRun (s : Value) (q : R6) : Value := .agg #[s, .int .i64 q.1, .int .i64 q.2.1, .int .i64 q.2.2.1, .int .i64 q.2.2.2.1, .int .i64 q.2.2.2.2.1, .int .i64 q.2.2.2.2.2]

set_option maxRecDepth 100000 in
set_option maxHeartbeats 4000000 in
theorem toRun_any (x : World) (s : Value) (F : List Fr) (h : FrsAt x s F) (hn : F.length ≤ 1048576) (hall : ∀ j, j < F.length → (F.getD j fr0).r.length ≤ 1048576 ∧ (F.getD j fr0).c.length ≤ 1048576) (q : R6) :
    Calls Try.prog 37 #[aggRun s q] x fun e y => ∃ u, e = .returned (aggRun u q) ∧ FrsAt y u F ∧ Below x.heap.size x y := by
  obtain ⟨n1, n2, n3, n4, n5, n6⟩ := q
  unfold aggRun
  dsimp only
  obtain ⟨p, cap, rfl, _⟩ := h.shape
  have HF : Hid (FrsAt x (.slice p F.length cap) F) := h
  have HA : Hid (F.length ≤ 1048576 ∧ ∀ j, j < F.length → (F.getD j fr0).r.length ≤ 1048576 ∧ (F.getD j fr0).c.length ≤ 1048576) := ⟨hn, hall⟩
  clear h hn hall
  generalize hL : F.length = n at *
  have HL : Hid (F.length = n) := hL
  clear hL
  go_enter Try.func37, Try.ntmps37
  go_wp2_with fail
  generalize hX : ((x.alloc (.cells #[.slice p n cap, .int .i64 n1, .int .i64 n2, .int .i64 n3, .int .i64 n4, .int .i64 n5, .int .i64 n6] 64)).alloc (.cells #[.slice none 0 0, .int .i64 0, .int .i64 0, .int .i64 0, .int .i64 0, .int .i64 0, .int .i64 0] 56)).alloc (.cells #[.slice none 0 0, .int .i64 0, .int .i64 0, .int .i64 0, .int .i64 0, .int .i64 0, .int .i64 0] 56) = X
  have HB : Hid (Below x.heap.size x X) := by show Below _ _ _; rw [← hX]; exact (((Below.refl _ _).alloc (Nat.le_refl _) _).alloc (by simp) _).alloc (by simp; omega) _
  have hsz : Hid (X.heap.size = x.heap.size + 3) := by show _ = _; rw [← hX]; simp
  have K0 : Hid (BxN X x.heap.size [.slice p n cap, .int .i64 n1, .int .i64 n2, .int .i64 n3, .int .i64 n4, .int .i64 n5, .int .i64 n6]) := by
    show BxN _ _ _; rw [← hX]; exact ((BxN.new x [_, _, _, _, _, _, _] _).later ((Below.refl _ _).alloc (Nat.le_refl _) _)).later ((Below.refl _ _).alloc (Nat.le_refl _) _)
  have K1 : Hid (BxN X (x.heap.size + 1) [.slice none 0 0, .int .i64 0, .int .i64 0, .int .i64 0, .int .i64 0, .int .i64 0, .int .i64 0]) := by
    show BxN _ _ _; rw [← hX]
    have := (BxN.new (x.alloc (.cells #[.slice p n cap, .int .i64 n1, .int .i64 n2, .int .i64 n3, .int .i64 n4, .int .i64 n5, .int .i64 n6] 64)) [.slice none 0 0, .int .i64 0, .int .i64 0, .int .i64 0, .int .i64 0, .int .i64 0, .int .i64 0] 56).later ((Below.refl _ _).alloc (Nat.le_refl _) (.cells #[.slice none 0 0, .int .i64 0, .int .i64 0, .int .i64 0, .int .i64 0, .int .i64 0, .int .i64 0] 56))
    simpa using this
  have K2 : Hid (BxN X (x.heap.size + 1 + 1) [.slice none 0 0, .int .i64 0, .int .i64 0, .int .i64 0, .int .i64 0, .int .i64 0, .int .i64 0]) := by
    show BxN _ _ _; rw [← hX]
    have := BxN.new ((x.alloc (.cells #[.slice p n cap, .int .i64 n1, .int .i64 n2, .int .i64 n3, .int .i64 n4, .int .i64 n5, .int .i64 n6] 64)).alloc (.cells #[.slice none 0 0, .int .i64 0, .int .i64 0, .int .i64 0, .int .i64 0, .int .i64 0, .int .i64 0] 56)) [.slice none 0 0, .int .i64 0, .int .i64 0, .int .i64 0, .int .i64 0, .int .i64 0, .int .i64 0] 56
    simpa using this
  clear hX
  refine (toFrameS_new X _ F (HF.out.later HB.out) (by rw [HL.out]; exact HA.out.1) (by rw [HL.out]; exact HA.out.2)).mono ?_
  rintro e y ⟨v1, rfl, h1, hb⟩
  obtain ⟨q1, c1, rfl, _⟩ := h1.frs.shape
  rw [HL.out] at h1 ⊢
  have HB1 : Hid (Below x.heap.size x y) := HB.out.trans (hb.mono HB.out.size)
  have HJ0 := K0.out.laterH hb
  have J1 := K1.out.laterH hb
  have HJ2 := K2.out.laterH hb
  have hs1 := hb.size
  have hsz1 : x.heap.size + 3 ≤ y.heap.size := by have := hsz.out; omega
  have H1 : Hid (FrsD y (x.heap.size + 3) (.slice q1 n c1) F) := h1.lower (by have := hsz.out; omega)
  clear h1 hb K0 K1 K2 HB hsz hs1
  have a1 := HJ0.out.c 1 _ rfl
  have a2 := HJ0.out.c 2 _ rfl
  have a3 := HJ0.out.c 3 _ rfl
  have a4 := HJ0.out.c 4 _ rfl
  have a5 := HJ0.out.c 5 _ rfl
  have a6 := HJ0.out.c 6 _ rfl
  have b0 := HJ2.out.c 0 _ rfl
  have b1 := HJ2.out.c 1 _ rfl
  have b2 := HJ2.out.c 2 _ rfl
  have b3 := HJ2.out.c 3 _ rfl
  have f0 := HJ2.out.fz 0
  have f1 := HJ2.out.fz 1
  have f2 := HJ2.out.fz 2
  have f3 := HJ2.out.fz 3
  have l2 : x.heap.size + 1 + 1 < y.heap.size := by omega
  go_wp2_with fail
  generalize hY : (((y.setCell ⟨x.heap.size + 1 + 1, 0, none⟩ (.slice q1 n c1)).setCell ⟨x.heap.size + 1 + 1, 1, none⟩ (.int .i64 n1)).setCell ⟨x.heap.size + 1 + 1, 2, none⟩ (.int .i64 n2)).setCell ⟨x.heap.size + 1 + 1, 3, none⟩ (.int .i64 n3) = Y
  have HB2 : Hid (Below x.heap.size x Y) := by show Below _ _ _; rw [← hY]; exact (((HB1.out.setCell (p := ⟨x.heap.size + 1 + 1, 0, none⟩) (by show x.heap.size ≤ x.heap.size + 1 + 1; omega) _).setCell (p := ⟨x.heap.size + 1 + 1, 1, none⟩) (by show x.heap.size ≤ x.heap.size + 1 + 1; omega) _).setCell (p := ⟨x.heap.size + 1 + 1, 2, none⟩) (by show x.heap.size ≤ x.heap.size + 1 + 1; omega) _).setCell (p := ⟨x.heap.size + 1 + 1, 3, none⟩) (by show x.heap.size ≤ x.heap.size + 1 + 1; omega) _
  have M0 : Hid (BxN Y x.heap.size [.slice p n cap, .int .i64 n1, .int .i64 n2, .int .i64 n3, .int .i64 n4, .int .i64 n5, .int .i64 n6]) := by show BxN _ _ _; rw [← hY]; exact (((HJ0.out.off (by omega)).off (by omega)).off (by omega)).off (by omega)
  have M1 : Hid (BxN Y (x.heap.size + 1) [.slice none 0 0, .int .i64 0, .int .i64 0, .int .i64 0, .int .i64 0, .int .i64 0, .int .i64 0]) := by show BxN _ _ _; rw [← hY]; exact (((J1.out.off (by omega)).off (by omega)).off (by omega)).off (by omega)
  have M2 : Hid (BxN Y (x.heap.size + 1 + 1) [.slice q1 n c1, .int .i64 n1, .int .i64 n2, .int .i64 n3, .int .i64 0, .int .i64 0, .int .i64 0]) := by show BxN _ _ _; rw [← hY]; exact (((HJ2.out.set 0 (by simp) _).set 1 (by simp) _).set 2 (by simp) _).set 3 (by simp) _
  have H12 : Hid (FrsD Y (x.heap.size + 3) (.slice q1 n c1) F) := by show FrsD _ _ _ _; rw [← hY]; exact (((H1.out.off (by omega)).off (by omega)).off (by omega)).off (by omega)
  have hsz2 : Y.heap.size = y.heap.size := by rw [← hY]; simp
  clear hY a1 a2 a3 a4 a5 a6 b0 b1 b2 b3 f0 f1 f2 f3 l2 H1 HJ0 HJ2 J1 HB1
  refine (toSite_at n4 n5 n6 Y).mono ?_
  rintro e z ⟨rfl, hb⟩
  have HB3 : Hid (Below x.heap.size x z) := HB2.out.trans (hb.mono HB2.out.size)
  have N0 := M0.out.later hb
  have N1 := M1.out.later hb
  have N2 := M2.out.later hb
  have hs3 := hb.size
  have H13 : Hid (FrsD z (x.heap.size + 3) (.slice q1 n c1) F) := H12.out.later hb
  clear hb M0 M1 M2 H12 HB2
  have hz1 : y.heap.size ≤ z.heap.size := by omega
  clear hs3 hsz2
  have r0 := N1.c 0 _ rfl
  have r1 := N1.c 1 _ rfl
  have r2 := N1.c 2 _ rfl
  have r3 := N1.c 3 _ rfl
  have r4 := N1.c 4 _ rfl
  have r5 := N1.c 5 _ rfl
  have r6 := N1.c 6 _ rfl
  have g0 := N1.fz 0
  have g1 := N1.fz 1
  have g2 := N1.fz 2
  have g3 := N1.fz 3
  have g4 := N1.fz 4
  have g5 := N1.fz 5
  have g6 := N1.fz 6
  have b0 := N2.c 0 _ rfl
  have b1 := N2.c 1 _ rfl
  have b2 := N2.c 2 _ rfl
  have b3 := N2.c 3 _ rfl
  have b4 := N2.c 4 _ rfl
  have b5 := N2.c 5 _ rfl
  have b6 := N2.c 6 _ rfl
  have f4 := N2.fz 4
  have f5 := N2.fz 5
  have f6 := N2.fz 6
  have l1 : x.heap.size + 1 < z.heap.size := by omega
  have l2 : x.heap.size + 1 + 1 < z.heap.size := by omega
  clear N0 N1 N2
  go_wp2_with fail
  refine bodyPost_ret (v := .agg #[.slice q1 n c1, .int .i64 n1, .int .i64 n2, .int .i64 n3, .int .i64 n4, .int .i64 n5, .int .i64 n6]) (by simp [results, Try.results37, go_sem, l1, l2, b0, b1, b2, b3, b4, b5, b6, r0, r1, r2, r3, r4, r5, r6, g0, g1, g2, g3, g4, g5, g6, f4, f5, f6]) rfl ⟨_, rfl, ?_, ?_⟩
  · refine FrsD.frs (B := x.heap.size + 3) ?_
    repeat (refine FrsD.off ?_ (by omega))
    exact H13.out
  · repeat (refine Below.setCell ?_ (by simp <;> omega) _)
    exact HB3.out

end Go.Proofs.Ytifpijindmdboaa
