import Derived.Test.YtbjegekfghihkaaB23
import Derived.Test.YtbjegekfghihkaaB22
import Derived.Test.YtbjegekfghihkaaB19
/-
  The contracts of the laws' own helpers that copy a run: toFrame, toFrameS, toRun.
-/
namespace Go.Proofs.Ytbjegekfghihkaa
open Go.RowKit
set_option linter.unusedVariables false
set_option linter.unusedSimpArgs false

/-- the value of a frame -/
def aggFr (f : Fr) (u v : Value) : Value := .agg #[.int .i64 f.p, .int .i64 f.a, .int .i64 f.t, u, v, .int .i64 f.i]

set_option maxRecDepth 100000 in
set_option maxHeartbeats 4000000 in
theorem toFrame_any (x : World) (f : Fr) (u v : Value) (hu : IntsW x u f.r) (hv : IntsW x v f.c) (hr : f.r.length ≤ 1048576) (hc : f.c.length ≤ 1048576) :
    Calls Try.prog 68 #[aggFr f u v] x fun e y => ∃ u' v', e = .returned (aggFr f u' v') ∧ IntsAt true y x.heap.size y.heap.size u' f.r ∧ IntsAt true y x.heap.size y.heap.size v' f.c ∧ Below x.heap.size x y := by
  obtain ⟨n0, n1, n2, n5, R, C⟩ := f
  unfold aggFr
  simp only at hu hv hr hc ⊢
  obtain ⟨p, k, rfl⟩ := hu.shape
  obtain ⟨p', k', rfl⟩ := hv.shape
  have HU : Hid (IntsW x (.slice p R.length k) R) := hu
  have HV : Hid (IntsW x (.slice p' C.length k') C) := hv
  have HR : Hid (R.length ≤ 1048576 ∧ C.length ≤ 1048576) := ⟨hr, hc⟩
  clear hu hv hr hc
  generalize hRn : R.length = rn at *
  generalize hCn : C.length = cn at *
  have HL : Hid (R.length = rn ∧ C.length = cn) := ⟨hRn, hCn⟩
  clear hRn hCn
  go_enter Try.func68, Try.ntmps68
  go_wp2_with fail
  generalize hX : ((x.alloc (.cells #[.int .i64 n0, .int .i64 n1, .int .i64 n2, .slice p rn k, .slice p' cn k', .int .i64 n5] 113)).alloc (.cells #[.int .i64 0, .int .i64 0, .int .i64 0, .slice none 0 0, .slice none 0 0, .int .i64 0] 99)).alloc (.cells #[.int .i64 n0, .int .i64 n1, .int .i64 n2, .slice none 0 0, .slice none 0 0, .int .i64 0] 99) = X
  have HB : Hid (Below x.heap.size x X) := by show Below _ _ _; rw [← hX]; exact (((Below.refl _ _).alloc (Nat.le_refl _) _).alloc (by simp) _).alloc (by simp; omega) _
  have hsz : Hid (X.heap.size = x.heap.size + 3) := by show _ = _; rw [← hX]; simp
  have K0 : Hid (BxN X x.heap.size [.int .i64 n0, .int .i64 n1, .int .i64 n2, .slice p rn k, .slice p' cn k', .int .i64 n5]) := by
    show BxN _ _ _; rw [← hX]; exact ((BxN.new x [_, _, _, _, _, _] _).later ((Below.refl _ _).alloc (Nat.le_refl _) _)).later ((Below.refl _ _).alloc (Nat.le_refl _) _)
  have K1 : Hid (BxN X (x.heap.size + 1) [.int .i64 0, .int .i64 0, .int .i64 0, .slice none 0 0, .slice none 0 0, .int .i64 0]) := by
    show BxN _ _ _; rw [← hX]
    have := (BxN.new (x.alloc (.cells #[.int .i64 n0, .int .i64 n1, .int .i64 n2, .slice p rn k, .slice p' cn k', .int .i64 n5] 113)) [.int .i64 0, .int .i64 0, .int .i64 0, .slice none 0 0, .slice none 0 0, .int .i64 0] 99).later ((Below.refl _ _).alloc (Nat.le_refl _) (.cells #[.int .i64 n0, .int .i64 n1, .int .i64 n2, .slice none 0 0, .slice none 0 0, .int .i64 0] 99))
    simpa using this
  have K2 : Hid (BxN X (x.heap.size + 1 + 1) [.int .i64 n0, .int .i64 n1, .int .i64 n2, .slice none 0 0, .slice none 0 0, .int .i64 0]) := by
    show BxN _ _ _; rw [← hX]
    have := BxN.new ((x.alloc (.cells #[.int .i64 n0, .int .i64 n1, .int .i64 n2, .slice p rn k, .slice p' cn k', .int .i64 n5] 113)).alloc (.cells #[.int .i64 0, .int .i64 0, .int .i64 0, .slice none 0 0, .slice none 0 0, .int .i64 0] 99)) [.int .i64 n0, .int .i64 n1, .int .i64 n2, .slice none 0 0, .slice none 0 0, .int .i64 0] 99
    simpa using this
  clear hX
  refine (toIntS_any X false 0 X.heap.size _ R (HU.out.later HB.out) (by rw [HL.out.1]; exact HR.out.1)).mono ?_
  rintro e y ⟨v1, rfl, h1, hb⟩
  obtain ⟨q1, c1, rfl⟩ := h1.shape
  rw [HL.out.1] at h1 ⊢
  have HB1 : Hid (Below x.heap.size x y) := HB.out.trans (hb.mono HB.out.size)
  have HJ0 := K0.out.laterH hb
  have J1 := K1.out.laterH hb
  have HJ2 := K2.out.laterH hb
  have hs1 := hb.size
  have hsz1 : x.heap.size + 3 ≤ y.heap.size := by have := hsz.out; omega
  have H1 : Hid (IntsAt true y (x.heap.size + 3) y.heap.size (.slice q1 rn c1) R) := h1.wide (by have := hsz.out; omega) (Nat.le_refl _) (Nat.le_refl _)
  clear h1 hb K0 K1 K2 HB hsz hs1
  have a4 := HJ0.out.c 4 _ rfl
  have b3 := HJ2.out.c 3 _ rfl
  have f3 := HJ2.out.fz 3
  have l2 : x.heap.size + 1 + 1 < y.heap.size := by omega
  go_wp2_with fail
  generalize hY : y.setCell ⟨x.heap.size + 1 + 1, 3, none⟩ (.slice q1 rn c1) = Y
  have HB2 : Hid (Below x.heap.size x Y) := by show Below _ _ _; rw [← hY]; exact HB1.out.setCell (p := ⟨x.heap.size + 1 + 1, 3, none⟩) (by show x.heap.size ≤ x.heap.size + 1 + 1; omega) _
  have M0 := HJ0.out.offH hY (by omega)
  have M1 := J1.out.offH hY (by omega)
  have M2 := HJ2.out.setH hY (by simp)
  have H12 : Hid (IntsAt true Y (x.heap.size + 3) y.heap.size (.slice q1 rn c1) R) := by
    show IntsAt _ _ _ _ _ _
    rw [← hY]; exact H1.out.off (by omega)
  have hsz2 : Y.heap.size = y.heap.size := by rw [← hY]; simp
  clear hY a4 b3 f3 l2 H1 HJ0 HJ2 J1 HB1
  refine (toIntS_any Y false 0 Y.heap.size _ C (HV.out.later HB2.out) (by rw [HL.out.2]; exact HR.out.2)).mono ?_
  rintro e z ⟨v2, rfl, h2, hb⟩
  obtain ⟨q2, c2, rfl⟩ := h2.shape
  rw [HL.out.2] at h2 ⊢
  have HB3 : Hid (Below x.heap.size x z) := HB2.out.trans (hb.mono HB2.out.size)
  have N0 := M0.out.later hb
  have N1 := M1.out.later hb
  have N2 := M2.out.later hb
  have hs3 := hb.size
  have H13 : Hid (IntsAt true z (x.heap.size + 3) y.heap.size (.slice q1 rn c1) R) := H12.out.later hb
  have H23 : Hid (IntsAt true z (x.heap.size + 3) z.heap.size (.slice q2 cn c2) C) := h2.wide (by omega) (Nat.le_refl _) (Nat.le_refl _)
  clear h2 hb M0 M1 M2 H12 HB2
  have hz1 : y.heap.size ≤ z.heap.size := by omega
  clear hs3 hsz2
  have a5 := N0.c 5 _ rfl
  have r0 := N1.c 0 _ rfl
  have r1 := N1.c 1 _ rfl
  have r2 := N1.c 2 _ rfl
  have r3 := N1.c 3 _ rfl
  have r4 := N1.c 4 _ rfl
  have r5 := N1.c 5 _ rfl
  have g0 := N1.fz 0
  have g1 := N1.fz 1
  have g2 := N1.fz 2
  have g3 := N1.fz 3
  have g4 := N1.fz 4
  have g5 := N1.fz 5
  have b0 := N2.c 0 _ rfl
  have b1 := N2.c 1 _ rfl
  have b2 := N2.c 2 _ rfl
  have b3 := N2.c 3 _ rfl
  have b4 := N2.c 4 _ rfl
  have b5 := N2.c 5 _ rfl
  have f4 := N2.fz 4
  have f5 := N2.fz 5
  have l1 : x.heap.size + 1 < z.heap.size := by omega
  have l2 : x.heap.size + 1 + 1 < z.heap.size := by omega
  clear N0 N1 N2
  go_wp2_with fail
  refine bodyPost_ret (v := .agg #[.int .i64 n0, .int .i64 n1, .int .i64 n2, .slice q1 rn c1, .slice q2 cn c2, .int .i64 n5]) (by simp [results, Try.results68, go_sem, l1, l2, b0, b1, b2, b3, b4, b5, r0, r1, r2, r3, r4, r5, g0, g1, g2, g3, g4, g5, f4, f5]) rfl ⟨_, _, rfl, ?_, ?_, ?_⟩
  · refine IntsAt.wide (B := x.heap.size + 3) (E := y.heap.size) ?_ (by omega) (by simp; omega) (by simp)
    repeat (refine IntsAt.off ?_ (by omega))
    exact H13.out
  · refine IntsAt.wide (B := x.heap.size + 3) (E := z.heap.size) ?_ (by omega) (by simp) (by simp)
    repeat (refine IntsAt.off ?_ (by omega))
    exact H23.out
  · repeat (refine Below.setCell ?_ (by simp <;> omega) _)
    exact HB3.out

/-- the six cells of a frame whose lists lie in blocks from B on -/
structure FrD (x : World) (B g o : Nat) (f : Fr) : Prop where
  c0 : x.cell? ⟨g, o, none⟩ = some (.int .i64 f.p)
  c1 : x.cell? ⟨g, o + 1, none⟩ = some (.int .i64 f.a)
  c2 : x.cell? ⟨g, o + 2, none⟩ = some (.int .i64 f.t)
  c3 : ∃ u, x.cell? ⟨g, o + 3, none⟩ = some u ∧ IntsAt true x B x.heap.size u f.r
  c4 : ∃ u, x.cell? ⟨g, o + 4, none⟩ = some u ∧ IntsAt true x B x.heap.size u f.c
  c5 : x.cell? ⟨g, o + 5, none⟩ = some (.int .i64 f.i)
theorem FrD.frc {x : World} {B g o : Nat} {f : Fr} (h : FrD x B g o f) : FrC x g o f := by
  obtain ⟨c0, c1, c2, ⟨u3, c3, i3⟩, ⟨u4, c4, i4⟩, c5⟩ := h
  exact ⟨c0, c1, c2, ⟨u3, c3, i3.any⟩, ⟨u4, c4, i4.any⟩, c5⟩
theorem FrD.later {x y : World} {B g o : Nat} {f : Fr} (h : FrD x B g o f) (hb : Below x.heap.size x y) (hg : g < x.heap.size) : FrD y B g o f := by
  obtain ⟨c0, c1, c2, ⟨u3, c3, i3⟩, ⟨u4, c4, i4⟩, c5⟩ := h
  exact ⟨(hb.cell (p := ⟨g, _, none⟩) hg).trans c0, (hb.cell (p := ⟨g, _, none⟩) hg).trans c1, (hb.cell (p := ⟨g, _, none⟩) hg).trans c2, ⟨u3, (hb.cell (p := ⟨g, _, none⟩) hg).trans c3, (i3.later hb).wide (Nat.le_refl _) hb.size (Nat.le_refl _)⟩, ⟨u4, (hb.cell (p := ⟨g, _, none⟩) hg).trans c4, (i4.later hb).wide (Nat.le_refl _) hb.size (Nat.le_refl _)⟩, (hb.cell (p := ⟨g, _, none⟩) hg).trans c5⟩
theorem IntsAt.offL {z : Bool} {x : World} {B E : Nat} {v : Value} {L : List Int} (h : IntsAt z x B E v L) {b o : Nat} {M : List Value} (hb : b < B ∨ E ≤ b) : IntsAt z (setL x b o M) B E v L :=
  h.stay (by rw [setL_size]; exact Nat.le_refl _) fun g k h1 h2 => ⟨setL_miss _ _ _ _ _ _ (by omega), setL_frozen _ _ _ _ _⟩
theorem FrD.off {x : World} {B g o : Nat} {f : Fr} (h : FrD x B g o f) {q : Nat} {M : List Value} (hB : g < B) (ho : o + 6 ≤ q ∨ q + M.length ≤ o) : FrD (setL x g q M) B g o f := by
  obtain ⟨c0, c1, c2, ⟨u3, c3, i3⟩, ⟨u4, c4, i4⟩, c5⟩ := h
  refine ⟨?_, ?_, ?_, ⟨u3, ?_, ?_⟩, ⟨u4, ?_, ?_⟩, ?_⟩
  · rw [setL_miss _ _ _ _ _ _ (by omega)]; exact c0
  · rw [setL_miss _ _ _ _ _ _ (by omega)]; exact c1
  · rw [setL_miss _ _ _ _ _ _ (by omega)]; exact c2
  · rw [setL_miss _ _ _ _ _ _ (by omega)]; exact c3
  · rw [setL_size]; exact i3.offL (by omega)
  · rw [setL_miss _ _ _ _ _ _ (by omega)]; exact c4
  · rw [setL_size]; exact i4.offL (by omega)
  · rw [setL_miss _ _ _ _ _ _ (by omega)]; exact c5

/-- new frames, in blocks from B on -/
def FrsD (x : World) (B : Nat) (v : Value) (F : List Fr) : Prop := ∃ g cap, v = .slice (some ⟨g, 0, none⟩) F.length cap ∧ F.length ≤ maxLen ∧ B ≤ g ∧ g < x.heap.size ∧ ∀ j, j < F.length → FrD x (g + 1) g (j * 6) (F.getD j fr0)
theorem FrsD.frs {x : World} {B : Nat} {v : Value} {F : List Fr} (h : FrsD x B v F) : FrsAt x v F := by
  obtain ⟨g, cap, hv, hm, hB, hg, hj⟩ := h
  exact ⟨_, cap, hv, hm, .inr ⟨g, 0, rfl, hg, fun j h => by rw [Nat.zero_add]; exact (hj j h).frc⟩⟩
theorem FrsD.later {x y : World} {B : Nat} {v : Value} {F : List Fr} (h : FrsD x B v F) (hb : Below x.heap.size x y) : FrsD y B v F := by
  obtain ⟨g, cap, hv, hm, hB, hg, hj⟩ := h
  exact ⟨g, cap, hv, hm, hB, Nat.lt_of_lt_of_le hg hb.size, fun j h => (hj j h).later hb hg⟩
theorem FrsD.lower {x : World} {B C : Nat} {v : Value} {F : List Fr} (h : FrsD x B v F) (hc : C ≤ B) : FrsD x C v F := by
  obtain ⟨g, cap, hv, hm, hB, hg, hj⟩ := h
  exact ⟨g, cap, hv, hm, by omega, hg, hj⟩
theorem FrsD.off {x : World} {B : Nat} {v : Value} {F : List Fr} (h : FrsD x B v F) {b o : Nat} {u : Value} (hb : b < B) : FrsD (x.setCell ⟨b, o, none⟩ u) B v F := by
  obtain ⟨g, cap, hv, hm, hB, hg, hj⟩ := h
  have far : ∀ k, (x.setCell ⟨b, o, none⟩ u).cell? ⟨g, k, none⟩ = x.cell? ⟨g, k, none⟩ := fun k => sc_other (by intro e; injection e; omega)
  refine ⟨g, cap, hv, hm, hB, by simpa using hg, fun j h => ?_⟩
  obtain ⟨c0, c1, c2, ⟨u3, c3, i3⟩, ⟨u4, c4, i4⟩, c5⟩ := hj j h
  exact ⟨(far _).trans c0, (far _).trans c1, (far _).trans c2, ⟨u3, (far _).trans c3, by simpa using i3.off (b := b) (o := o) (u := u) (by omega)⟩, ⟨u4, (far _).trans c4, by simpa using i4.off (b := b) (o := o) (u := u) (by omega)⟩, (far _).trans c5⟩

theorem infoFrame : (Try.prog.info? 99).map (fun i => (i.zero, i.size, i.bytes)) = some (some (.agg #[.int .i64 0, .int .i64 0, .int .i64 0, .slice none 0 0, .slice none 0 0, .int .i64 0]), 6, 80) := by kernel_rfl
set_option maxRecDepth 100000 in
set_option maxHeartbeats 4000000 in
theorem toFrameS_new (x : World) (v : Value) (F : List Fr) (h : FrsAt x v F) (hn : F.length ≤ 1048576) (hall : ∀ j, j < F.length → (F.getD j fr0).r.length ≤ 1048576 ∧ (F.getD j fr0).c.length ≤ 1048576) :
    Calls Try.prog 44 #[v] x fun e y => ∃ u, e = .returned u ∧ FrsD y x.heap.size u F ∧ Below x.heap.size x y := by
  obtain ⟨i, hi, hz0, hz1, hz2⟩ : ∃ i, Try.prog.info? 99 = some i ∧ i.zero = some (.agg #[.int .i64 0, .int .i64 0, .int .i64 0, .slice none 0 0, .slice none 0 0, .int .i64 0]) ∧ i.size = 6 ∧ i.bytes = 80 := info_parts infoFrame
  have HI : Hid (Try.prog.info? 99 = some i ∧ i.zero = some (.agg #[.int .i64 0, .int .i64 0, .int .i64 0, .slice none 0 0, .slice none 0 0, .int .i64 0]) ∧ i.size = 6 ∧ i.bytes = 80) := ⟨hi, hz0, hz1, hz2⟩
  clear hi hz0 hz1 hz2
  obtain ⟨p, cap, rfl, hm, hc⟩ := h
  generalize hL : F.length = n at *
  have HL : Hid (F.length = n) := hL
  have HN : Hid (n ≤ 1048576) := hn
  have HA : Hid (∀ j, j < n → (F.getD j fr0).r.length ≤ 1048576 ∧ (F.getD j fr0).c.length ≤ 1048576) := hall
  have hni : (n : Int) ≤ 1048576 := by omega
  have HM : Hid (n ≤ maxLen) := hm
  clear hL hn hm hall
  go_enter Try.func44, Try.ntmps44
  go_wp2_with (refine wpList_make_full _ rfl _ _ 53 rfl x.heap.size 99 i (.agg #[.int .i64 0, .int .i64 0, .int .i64 0, .slice none 0 0, .slice none 0 0, .int .i64 0]) 6 Try.underlying53 HI.out.1 HI.out.2.1 HI.out.2.2.1 .i64 .i64 n n n rfl rfl rfl rfl ?b2 HM.out (Nat.le_refl _) ?_)
  case b2 => rw [HI.out.2.2.2]; have := HN.out; omega
  intro w1 hown0 hgr
  obtain ⟨xs, hown⟩ : ∃ xs, w1.ownsRow x.heap.size 99 6 (.slice (some ⟨x.heap.size, 0, none⟩) n n) n xs := ⟨_, hown0⟩
  clear hown0
  have hg1 : x.heap.size < w1.heap.size := (World.ownsRow.lt hown x.heap.size rfl).2
  have hB1 : Below x.heap.size x w1 := (Below.refl _ _).grown hgr (Nat.le_refl _) (fun k hk => by simp at hk)
  have hcell : ∀ k, k < n * 6 → ∃ v, w1.cell? ⟨x.heap.size, k, none⟩ = some v := by
    intro k hk
    have hl : k < xs.length := by rw [hown.1]; exact hk
    have := World.ownsRow.cells hown rfl k _ (List.getElem?_eq_getElem hl)
    rw [Addr.add_mid, Nat.zero_add] at this
    exact ⟨_, this⟩
  have hfz : ∀ k, w1.frozen? ⟨x.heap.size, k, none⟩ = false := fun k => World.ownsRow.frozenAt hown k
  clear hown hgr
  go_wp2_with fail
  go_loopw [4] (fun t y => ∃ k : Nat, k ≤ n ∧ t = .int .i64 k ∧ Below x.heap.size x y ∧ x.heap.size < y.heap.size ∧ (∀ j, j < n * 6 → ∃ v, y.cell? ⟨x.heap.size, j, none⟩ = some v) ∧ (∀ j, y.frozen? ⟨x.heap.size, j, none⟩ = false) ∧ (∀ j, j < k → FrD y (x.heap.size + 1) x.heap.size (j * 6) (F.getD j fr0))) (fun t _ => n - (intOf t).toNat)
  case atStart => exact ⟨0, by omega, rfl, hB1, hg1, hcell, hfz, fun j hj => by omega⟩
  case round =>
    clear hB1 hg1 hcell hfz
    obtain ⟨k, hk, rfl, hB, hg, hcell, hfz, hdone⟩ := hrel
    by_cases hlt : k < n
    · rcases hc with h0 | ⟨g, o, rfl, hgx, hins⟩
      · omega
      have hki : (k : Int) < (n : Int) := by omega
      obtain ⟨d0, d1, d2, ⟨u3, d3, i3⟩, ⟨u4, d4, i4⟩, d5⟩ := (hins k hlt).later hB hgx
      have HC : Hid (∀ j, j < n * 6 → ∃ v, wr.cell? ⟨x.heap.size, j, none⟩ = some v) := hcell
      have HF : Hid (∀ j, wr.frozen? ⟨x.heap.size, j, none⟩ = false) := hfz
      have HD : Hid (∀ j, j < k → FrD wr (x.heap.size + 1) x.heap.size (j * 6) (F.getD j fr0)) := hdone
      have HBB : Hid (Below x.heap.size x wr) := hB
      have HLe := HA.out k hlt
      have HLL : Hid ((F.getD k fr0).r.length ≤ 1048576 ∧ (F.getD k fr0).c.length ≤ 1048576) := HLe
      have HI3 : Hid (IntsW wr u3 (F.getD k fr0).r) := i3
      have HI4 : Hid (IntsW wr u4 (F.getD k fr0).c) := i4
      obtain ⟨p3, k3, rfl⟩ := i3.shape
      obtain ⟨p4, k4, rfl⟩ := i4.shape
      clear hcell hdone hins hfz HLe i3 i4 hB
      generalize hI : F.getD k fr0 = f at *
      have HII : Hid (F.getD k fr0 = f) := hI
      clear hI
      go_wp2_with fail
      refine (toFrame_any wr f _ _ HI3.out HI4.out HLL.out.1 HLL.out.2).mono ?_
      rintro e w2 ⟨v3, v4, rfl, q3, q4, hb2⟩
      obtain ⟨p3', k3', rfl⟩ := q3.shape
      obtain ⟨p4', k4', rfl⟩ := q4.shape
      unfold aggFr
      have H3 : Hid (IntsAt true w2 (x.heap.size + 1) w2.heap.size (.slice p3' f.r.length k3') f.r) := q3.wide (by omega) (Nat.le_refl _) (Nat.le_refl _)
      have H4 : Hid (IntsAt true w2 (x.heap.size + 1) w2.heap.size (.slice p4' f.c.length k4') f.c) := q4.wide (by omega) (Nat.le_refl _) (Nat.le_refl _)
      have HB2 : Hid (Below x.heap.size x w2) := HBB.out.trans (hb2.mono HBB.out.size)
      have HC2 : Hid (∀ j, j < n * 6 → ∃ v, w2.cell? ⟨x.heap.size, j, none⟩ = some v) := fun j hj => by
        obtain ⟨v, hv⟩ := HC.out j hj
        exact ⟨v, (hb2.cell (p := ⟨x.heap.size, j, none⟩) hg).trans hv⟩
      have HF2 : Hid (∀ j, w2.frozen? ⟨x.heap.size, j, none⟩ = false) := fun j => (hb2.frozen (p := ⟨x.heap.size, j, none⟩) hg).trans (HF.out j)
      have HD2 : Hid (∀ j, j < k → FrD w2 (x.heap.size + 1) x.heap.size (j * 6) (F.getD j fr0)) := fun j hj => (HD.out j hj).later hb2 hg
      have hg2 : x.heap.size < w2.heap.size := Nat.lt_of_lt_of_le hg hb2.size
      obtain ⟨e0, z0⟩ := HC2.out (k * 6) (by omega)
      obtain ⟨e1, z1⟩ := HC2.out (k * 6 + 1) (by omega)
      obtain ⟨e2, z2⟩ := HC2.out (k * 6 + 2) (by omega)
      obtain ⟨e3, z3⟩ := HC2.out (k * 6 + 3) (by omega)
      obtain ⟨e4, z4⟩ := HC2.out (k * 6 + 4) (by omega)
      obtain ⟨e5, z5⟩ := HC2.out (k * 6 + 5) (by omega)
      have f0 := HF2.out (k * 6)
      have f1 := HF2.out (k * 6 + 1)
      have f2 := HF2.out (k * 6 + 2)
      have f3 := HF2.out (k * 6 + 3)
      have f4 := HF2.out (k * 6 + 4)
      have f5 := HF2.out (k * 6 + 5)
      clear d0 d1 d2 d3 d4 d5 q3 q4 hb2 HC HF HD HBB HI3 HI4 HLL
      go_wp2_with fail
      go_roundw
      case rel =>
        refine ⟨k + 1, by omega, by go_num, ?_⟩
        generalize hM : [Value.int .i64 f.p, .int .i64 f.a, .int .i64 f.t, .slice p3' f.r.length k3', .slice p4' f.c.length k4', .int .i64 f.i] = M
        have hMl : M.length = 6 := by rw [← hM]; rfl
        have hgo : ∀ y, y = setL w2 x.heap.size (k * 6) M → (Below x.heap.size x y ∧ x.heap.size < y.heap.size ∧ (∀ j, j < n * 6 → ∃ v, y.cell? ⟨x.heap.size, j, none⟩ = some v) ∧ (∀ j, y.frozen? ⟨x.heap.size, j, none⟩ = false) ∧ (∀ j, j < k + 1 → FrD y (x.heap.size + 1) x.heap.size (j * 6) (F.getD j fr0))) := by
          intro y hy
          subst hy
          refine ⟨setL_below M HB2.out (Nat.le_refl _), by rw [setL_size]; exact hg2, fun j hj => setL_some _ _ _ _ _ (HC2.out j hj), fun j => (setL_frozen _ _ _ _ _).trans (HF2.out j), fun j hj => ?_⟩
          by_cases hjk : j = k
          · subst hjk
            rw [HII.out]
            have hh := setL_hit w2 x.heap.size (j * 6) M (fun i hi => HC2.out _ (by omega))
            subst hM
            refine ⟨hh 0 _ rfl, hh 1 _ rfl, hh 2 _ rfl, ⟨_, hh 3 _ rfl, ?_⟩, ⟨_, hh 4 _ rfl, ?_⟩, hh 5 _ rfl⟩
            · rw [setL_size]; exact H3.out.offL (by omega)
            · rw [setL_size]; exact H4.out.offL (by omega)
          · exact (HD2.out j (by omega)).off (by omega) (by omega)
        exact hgo _ (by rw [← hM]; rfl)
      case measure => simp [intOf]; omega
    · obtain rfl : k = n := by omega
      have hki : ¬ (k : Int) < (k : Int) := by omega
      have HD : Hid (∀ j, j < k → FrD wr (x.heap.size + 1) x.heap.size (j * 6) (F.getD j fr0)) := hdone
      clear hcell hdone hc hfz
      go_wp2_with fail
      go_ret
      exact ⟨_, rfl, ⟨x.heap.size, k, by rw [HL.out]; rfl, by rw [HL.out]; exact HM.out, Nat.le_refl _, hg, fun j hj => by rw [HL.out] at hj; exact HD.out j hj⟩, hB⟩

end Go.Proofs.Ytbjegekfghihkaa

/-
  Whether a frame is ok: the contract of the program's frameOk.
-/
namespace Go.Proofs.Ytbjegekfghihkaa
open Go.RowKit
set_option linter.unusedVariables false
set_option linter.unusedSimpArgs false

set_option maxRecDepth 100000 in
set_option maxHeartbeats 4000000 in
theorem frameOk_impl (x : World) (B : Nat) (v : Value) (P : List (List I4)) (h : ProgAt x B v P) (hok : progOkF P = true) (f : Fr) (a b : Value) (ha : IntsW x a f.r) (hb : IntsW x b f.c) :
    Calls Try.prog 54 #[v, aggFr f a b] x fun e y => e = .returned (.bool (frameF P f)) ∧ Below x.heap.size x y := by
  obtain ⟨n0, n1, n2, n5, R, C⟩ := f
  unfold aggFr
  simp only at ha hb ⊢
  obtain ⟨p, cap, rfl, _⟩ := h.shape
  obtain ⟨pa, ka, rfl⟩ := ha.shape
  obtain ⟨pb, kb, rfl⟩ := hb.shape
  have H : Hid (ProgAt x B (.slice p P.length cap) P) := h
  have HA : Hid (IntsW x (.slice pa R.length ka) R) := ha
  have HB : Hid (IntsW x (.slice pb C.length kb) C) := hb
  have hl := progOkF_len hok
  have HOK : Hid (progOkF P = true) := hok
  have hn4 : (P.length : Int) ≤ 4 := by omega
  have HFr : Hid (frameF P ⟨n0, n1, n2, n5, R, C⟩ = (inI n0 0 (P.length - 1) && wdF n1 && inI n2 0 (P.getD n0.toNat []).length && wordsF R && wordsF C && inI n5 0 2)) := rfl
  generalize hFF : frameF P ⟨n0, n1, n2, n5, R, C⟩ = FF at HFr
  clear hFF h ha hb hok
  generalize hrn : R.length = rn at *
  generalize hcn : C.length = cn at *
  generalize hpn : P.length = pn at *
  have HPN : Hid (P.length = pn) := hpn
  clear hrn hcn hpn
  go_enter Try.func54, Try.ntmps54
  go_wp2_with fail
  generalize hX : (x.alloc (.cells #[.int .i64 n0, .int .i64 n1, .int .i64 n2, .slice pa rn ka, .slice pb cn kb, .int .i64 n5] 99)).alloc (.cells #[.int .i64 pn, .int .i64 0] 106) = X
  have HXB : Hid (Below x.heap.size x X) := by show Below _ _ _; rw [← hX]; exact ((Below.refl _ _).alloc (Nat.le_refl _) _).alloc (by simp) _
  have K0 : Hid (BxN X x.heap.size [.int .i64 n0, .int .i64 n1, .int .i64 n2, .slice pa rn ka, .slice pb cn kb, .int .i64 n5]) := by
    show BxN _ _ _; rw [← hX]; exact (BxN.new x [_, _, _, _, _, _] _).later ((Below.refl _ _).alloc (Nat.le_refl _) _)
  have K1 : Hid (BxN X (x.heap.size + 1) [.int .i64 pn, .int .i64 0]) := by
    show BxN _ _ _; rw [← hX]
    have := BxN.new (x.alloc (.cells #[.int .i64 n0, .int .i64 n1, .int .i64 n2, .slice pa rn ka, .slice pb cn kb, .int .i64 n5] 99)) [.int .i64 pn, .int .i64 0] 106
    simpa using this
  clear hX
  refine (hasProc_any pn 0 n0 X).mono ?_
  rintro e y ⟨rfl, hb⟩
  have HYB : Hid (Below x.heap.size x y) := HXB.out.trans (hb.mono HXB.out.size)
  have J0 := K0.out.laterH hb
  have J1 := K1.out.laterH hb
  clear hb K0 K1 HXB
  cases g1 : inI n0 0 (pn - 1)
  · go_wp2_with fail
    go_ret
    exact ⟨retBool (by rw [HFr.out, g1]; rfl), HYB.out⟩
  · obtain ⟨k, rfl, hk⟩ : ∃ k : Nat, n0 = k ∧ k < pn := by
      simp only [inI, Bool.and_eq_true, decide_eq_true_eq] at g1
      exact ⟨n0.toNat, by omega, by omega⟩
    have hk' : k < P.length := by rw [HPN.out]; exact hk
    have hc8 := (progOkF_code HOK.out hk').1
    have HP2 : Hid (ProgAt x B (.slice p P.length cap) P) := by show ProgAt _ _ _ _; rw [HPN.out]; exact H.out
    obtain ⟨g, o, uu, rfl, hg, hu, hc⟩ := HP2.out.code hk'
    obtain ⟨pk, ck, rfl, _⟩ := hc.shape
    have d0 := (HYB.out.cell (p := ⟨g, o + k, none⟩) hg).trans hu
    have HFr2 : Hid (FF = (wdF n1 && inI n2 0 (P.getD k []).length && wordsF R && wordsF C && inI n5 0 2)) := by
      show FF = _
      rw [HFr.out, g1]; simp
    clear HFr hc hu HP2 H g1 hk'
    generalize hcl : (P.getD k []).length = cl at *
    clear hcl
    have hki : (k : Int) < (pn : Int) := by omega
    have hc8i : (cl : Int) ≤ 8 := by omega
    have a0 := J0.out.c 0 _ rfl
    have a1 := J0.out.c 1 _ rfl
    have l0 := J0.out.lt
    have b1 := J1.out.c 1 _ rfl
    have fb1 := J1.out.fz 1
    have l1 := J1.out.lt
    go_wp2_with fail
    generalize hZ : y.setCell ⟨x.heap.size + 1, 1, none⟩ (.int .i64 cl) = Z
    have HZB : Hid (Below x.heap.size x Z) := by show Below _ _ _; rw [← hZ]; exact HYB.out.setCell (p := ⟨x.heap.size + 1, 1, none⟩) (by show x.heap.size ≤ x.heap.size + 1; omega) _
    have M0 := J0.out.offH hZ (by omega)
    have M1 := J1.out.setH hZ (by simp)
    clear hZ a0 a1 l0 b1 fb1 l1 J0 J1 HYB d0
    refine (isWord_e n1 _).mono ?_
    rintro e z ⟨rfl, hz⟩
    have hz2 := hz.symm
    subst hz2
    clear hz
    cases g2 : inI n1 (-16) 15
    · go_wp2_with fail
      go_ret
      exact ⟨retBool (by rw [HFr2.out, show wdF n1 = false from g2]; rfl), HZB.out⟩
    · have a2 := M0.out.c 2 _ rfl
      have b0 := M1.out.c 0 _ rfl
      have b1 := M1.out.c 1 _ rfl
      have l0 := M0.out.lt
      have l1 := M1.out.lt
      go_wp2_with fail
      refine (hasPlace_any pn cl n2 Z).mono ?_
      rintro e z2 ⟨rfl, hb⟩
      have HZ2 : Hid (Below x.heap.size x z2) := HZB.out.trans (hb.mono HZB.out.size)
      have N0 := M0.out.laterH hb
      clear hb a2 b0 b1 l0 l1 M0 M1 HZB
      cases g3 : inI n2 0 cl
      · go_wp2_with fail
        go_ret
        exact ⟨retBool (by rw [HFr2.out, show wdF n1 = true from g2, g3]; rfl), HZ2.out⟩
      · have a3 := N0.out.c 3 _ rfl
        have l0 := N0.out.lt
        go_wp2_with fail
        refine (areWords_any z2 _ R (HA.out.later HZ2.out)).mono ?_
        rintro e z3 ⟨rfl, hz⟩
        have hz2 := hz.symm
        subst hz2
        clear hz
        cases g4 : wordsF R
        · go_wp2_with fail
          go_ret
          exact ⟨retBool (by rw [HFr2.out, g4]; simp), HZ2.out⟩
        · have a4 := N0.out.c 4 _ rfl
          go_wp2_with fail
          refine (areWords_any z2 _ C (HB.out.later HZ2.out)).mono ?_
          rintro e z4 ⟨rfl, hz⟩
          have hz2 := hz.symm
          subst hz2
          clear hz
          cases g5 : wordsF C
          · go_wp2_with fail
            go_ret
            exact ⟨retBool (by rw [HFr2.out, g5]; simp), HZ2.out⟩
          · have a5 := N0.out.c 5 _ rfl
            go_wp2_with fail
            refine (isReg_any n5 z2).mono ?_
            rintro e z5 ⟨rfl, hz⟩
            have hz2 := hz.symm
            subst hz2
            clear hz
            go_wp2_with fail
            go_ret
            exact ⟨retBool (by rw [HFr2.out, show wdF n1 = true from g2, g3, g4, g5]; simp), HZ2.out⟩

end Go.Proofs.Ytbjegekfghihkaa
