import Derived.Test.YtlkebkajdlgebaaGreatB20
import Derived.Test.YtlkebkajdlgebaaGreatB17
/-
  The contracts of the laws' own helpers that copy sums: toRow, toRowS, toSum, toSumS.
-/
namespace Go.Proofs.YtlkebkajdlgebaaGreat
open Go.RowKit
set_option linter.unusedVariables false
set_option linter.unusedSimpArgs false

def aggRw (r : Rw) (u v : Value) : Value := .agg #[.bool r.o.1, .int .i64 r.o.2.1, .int .i64 r.o.2.2, u, v]

set_option maxRecDepth 100000 in
set_option maxHeartbeats 4000000 in
theorem toRow_any (x : World) (r : Rw) (u v : Value) (hu : IRowW 3 x u r.ns r.S) (hv : IRowW 2 x v r.nc r.C) (hr : rwSz r) :
    Calls Tryz.prog 56 #[aggRw r u v] x fun e y => ∃ u' v', e = .returned (aggRw r u' v') ∧ IRow 3 true y x.heap.size y.heap.size u' r.ns r.S ∧ IRow 2 true y x.heap.size y.heap.size v' r.nc r.C ∧ Below x.heap.size x y := by
  obtain ⟨⟨b0, n1, n2⟩, ns, S, nc, C⟩ := r
  unfold aggRw
  simp only at hu hv ⊢
  obtain ⟨p, k, rfl⟩ := hu.shape
  obtain ⟨p', k', rfl⟩ := hv.shape
  have HU : Hid (IRowW 3 x (.slice p ns k) ns S) := hu
  have HV : Hid (IRowW 2 x (.slice p' nc k') nc C) := hv
  have HR : Hid (ns ≤ 1048576 ∧ nc ≤ 1048576) := hr
  clear hu hv hr
  go_enter Tryz.func56, Tryz.ntmps56
  go_wp2_with fail
  generalize hX : ((x.alloc (.cells #[.bool b0, .int .i64 n1, .int .i64 n2, .slice p ns k, .slice p' nc k'] 90)).alloc (.cells #[.bool false, .int .i64 0, .int .i64 0, .slice none 0 0, .slice none 0 0] 71)).alloc (.cells #[.bool false, .int .i64 0, .int .i64 0, .slice none 0 0, .slice none 0 0] 71) = X
  have HB : Hid (Below x.heap.size x X) := by show Below _ _ _; rw [← hX]; exact (((Below.refl _ _).alloc (Nat.le_refl _) _).alloc (by simp) _).alloc (by simp; omega) _
  have hsz : X.heap.size = x.heap.size + 3 := by rw [← hX]; simp
  have K0 : Hid (BxN X x.heap.size [.bool b0, .int .i64 n1, .int .i64 n2, .slice p ns k, .slice p' nc k']) := by
    show BxN _ _ _; rw [← hX]; exact ((BxN.new x [_, _, _, _, _] _).later ((Below.refl _ _).alloc (Nat.le_refl _) _)).later ((Below.refl _ _).alloc (Nat.le_refl _) _)
  have K1 : Hid (BxN X (x.heap.size + 1) [.bool false, .int .i64 0, .int .i64 0, .slice none 0 0, .slice none 0 0]) := by
    show BxN _ _ _; rw [← hX]
    have := (BxN.new (x.alloc (.cells #[.bool b0, .int .i64 n1, .int .i64 n2, .slice p ns k, .slice p' nc k'] 90)) [.bool false, .int .i64 0, .int .i64 0, .slice none 0 0, .slice none 0 0] 71).later ((Below.refl _ _).alloc (Nat.le_refl _) (.cells #[.bool false, .int .i64 0, .int .i64 0, .slice none 0 0, .slice none 0 0] 71))
    simpa using this
  have K2 : Hid (BxN X (x.heap.size + 1 + 1) [.bool false, .int .i64 0, .int .i64 0, .slice none 0 0, .slice none 0 0]) := by
    show BxN _ _ _; rw [← hX]
    have := BxN.new ((x.alloc (.cells #[.bool b0, .int .i64 n1, .int .i64 n2, .slice p ns k, .slice p' nc k'] 90)).alloc (.cells #[.bool false, .int .i64 0, .int .i64 0, .slice none 0 0, .slice none 0 0] 71)) [.bool false, .int .i64 0, .int .i64 0, .slice none 0 0, .slice none 0 0] 71
    simpa using this
  clear hX
  refine (toSpan_any b0 n1 n2 X).mono ?_
  rintro e x1 ⟨rfl, hb⟩
  have HB1 : Hid (Below x.heap.size x x1) := HB.out.trans (hb.mono HB.out.size)
  have J0 := K0.out.laterH hb
  have J1 := K1.out.laterH hb
  have J2 := K2.out.laterH hb
  have hs1 : x.heap.size + 3 ≤ x1.heap.size := by have := hb.size; omega
  clear hb K0 K1 K2 HB hsz
  have a3 := J0.out.c 3 _ rfl
  have b0' := J2.out.c 0 _ rfl
  have b1' := J2.out.c 1 _ rfl
  have b2' := J2.out.c 2 _ rfl
  have f0 := J2.out.fz 0
  have f1 := J2.out.fz 1
  have f2 := J2.out.fz 2
  have l2 : x.heap.size + 1 + 1 < x1.heap.size := by omega
  go_wp2_with fail
  generalize hY : ((x1.setCell ⟨x.heap.size + 1 + 1, 0, none⟩ (.bool b0)).setCell ⟨x.heap.size + 1 + 1, 1, none⟩ (.int .i64 n1)).setCell ⟨x.heap.size + 1 + 1, 2, none⟩ (.int .i64 n2) = Y
  have hlo : x.heap.size ≤ x.heap.size + 1 + 1 := by omega
  have HB2 : Hid (Below x.heap.size x Y) := by show Below _ _ _; rw [← hY]; exact ((HB1.out.setCell (p := ⟨x.heap.size + 1 + 1, 0, none⟩) hlo _).setCell (p := ⟨x.heap.size + 1 + 1, 1, none⟩) hlo _).setCell (p := ⟨x.heap.size + 1 + 1, 2, none⟩) hlo _
  have M0 : Hid (BxN Y x.heap.size [.bool b0, .int .i64 n1, .int .i64 n2, .slice p ns k, .slice p' nc k']) := by show BxN _ _ _; rw [← hY]; exact ((J0.out.off (by omega)).off (by omega)).off (by omega)
  have M1 : Hid (BxN Y (x.heap.size + 1) [.bool false, .int .i64 0, .int .i64 0, .slice none 0 0, .slice none 0 0]) := by show BxN _ _ _; rw [← hY]; exact ((J1.out.off (by omega)).off (by omega)).off (by omega)
  have M2 : Hid (BxN Y (x.heap.size + 1 + 1) [.bool b0, .int .i64 n1, .int .i64 n2, .slice none 0 0, .slice none 0 0]) := by show BxN _ _ _; rw [← hY]; exact ((J2.out.set 0 (by simp) _).set 1 (by simp) _).set 2 (by simp) _
  have hs2 : x.heap.size + 3 ≤ Y.heap.size := by rw [← hY]; simpa using hs1
  clear hY a3 b0' b1' b2' f0 f1 f2 l2 J0 J1 J2 HB1 hs1
  refine (toSiteS_any Y false 0 Y.heap.size _ ns S (HU.out.later HB2.out) HR.out.1).mono ?_
  rintro e y ⟨v1, rfl, h1, hb⟩
  obtain ⟨q1, c1, rfl⟩ := h1.shape
  have HB3 : Hid (Below x.heap.size x y) := HB2.out.trans (hb.mono HB2.out.size)
  have N0 := M0.out.laterH hb
  have N1 := M1.out.laterH hb
  have N2 := M2.out.laterH hb
  have hs3 : x.heap.size + 3 ≤ y.heap.size := by have := hb.size; omega
  have H1 : Hid (IRow 3 true y (x.heap.size + 3) y.heap.size (.slice q1 ns c1) ns S) := h1.wide hs2 (Nat.le_refl _) (Nat.le_refl _)
  clear h1 hb M0 M1 M2 HB2 hs2
  have a4 := N0.out.c 4 _ rfl
  have b3 := N2.out.c 3 _ rfl
  have f3 := N2.out.fz 3
  have l2 : x.heap.size + 1 + 1 < y.heap.size := by omega
  go_wp2_with fail
  generalize hZ : y.setCell ⟨x.heap.size + 1 + 1, 3, none⟩ (.slice q1 ns c1) = Z
  have HB4 : Hid (Below x.heap.size x Z) := by show Below _ _ _; rw [← hZ]; exact HB3.out.setCell (p := ⟨x.heap.size + 1 + 1, 3, none⟩) hlo _
  have O0 := N0.out.offH hZ (by omega)
  have O1 := N1.out.offH hZ (by omega)
  have O2 := N2.out.setH hZ (by simp)
  have H2 : Hid (IRow 3 true Z (x.heap.size + 3) y.heap.size (.slice q1 ns c1) ns S) := by show IRow _ _ _ _ _ _ _ _; rw [← hZ]; exact H1.out.off (by omega)
  have hs4 : Z.heap.size = y.heap.size := by rw [← hZ]; simp
  clear hZ a4 b3 f3 l2 N0 N1 N2 HB3 H1
  refine (toCallS_any Z false 0 Z.heap.size _ nc C (HV.out.later HB4.out) HR.out.2).mono ?_
  rintro e z ⟨v2, rfl, h2, hb⟩
  obtain ⟨q2, c2, rfl⟩ := h2.shape
  have HB5 : Hid (Below x.heap.size x z) := HB4.out.trans (hb.mono HB4.out.size)
  have P0 := O0.out.later hb
  have P1 := O1.out.later hb
  have P2 := O2.out.later hb
  have H13 : Hid (IRow 3 true z (x.heap.size + 3) y.heap.size (.slice q1 ns c1) ns S) := H2.out.later hb
  have H23 : Hid (IRow 2 true z (x.heap.size + 3) z.heap.size (.slice q2 nc c2) nc C) := h2.wide (by omega) (Nat.le_refl _) (Nat.le_refl _)
  have hs5 : y.heap.size ≤ z.heap.size := by have := hb.size; omega
  clear h2 hb O0 O1 O2 HB4 H2 hs4
  have r0 := P1.c 0 _ rfl
  have r1 := P1.c 1 _ rfl
  have r2 := P1.c 2 _ rfl
  have r3 := P1.c 3 _ rfl
  have r4 := P1.c 4 _ rfl
  have g0 := P1.fz 0
  have g1 := P1.fz 1
  have g2 := P1.fz 2
  have g3 := P1.fz 3
  have g4 := P1.fz 4
  have b0' := P2.c 0 _ rfl
  have b1 := P2.c 1 _ rfl
  have b2 := P2.c 2 _ rfl
  have b3 := P2.c 3 _ rfl
  have b4 := P2.c 4 _ rfl
  have f4 := P2.fz 4
  have l1 : x.heap.size + 1 < z.heap.size := by omega
  have l2 : x.heap.size + 1 + 1 < z.heap.size := by omega
  clear P0 P1 P2
  go_wp2_with fail
  refine bodyPost_ret (v := .agg #[.bool b0, .int .i64 n1, .int .i64 n2, .slice q1 ns c1, .slice q2 nc c2]) (by simp [results, Tryz.results56, go_sem, l1, l2, b0', b1, b2, b3, b4, r0, r1, r2, r3, r4, g0, g1, g2, g3, g4, f4]) rfl ⟨_, _, rfl, ?_, ?_, ?_⟩
  · refine IRow.wide (B := x.heap.size + 3) (E := y.heap.size) ?_ (by omega) (by simp; omega) (by simp)
    repeat (refine IRow.off ?_ (by omega))
    exact H13.out
  · refine IRow.wide (B := x.heap.size + 3) (E := z.heap.size) ?_ (by omega) (by simp) (by simp)
    repeat (refine IRow.off ?_ (by omega))
    exact H23.out
  · repeat (refine Below.setCell ?_ (by simp <;> omega) _)
    exact HB5.out

/-- the five cells of a row whose lists lie in blocks from B on -/
structure RwD (x : World) (B g o : Nat) (r : Rw) : Prop where
  c0 : x.cell? ⟨g, o, none⟩ = some (.bool r.o.1)
  c1 : x.cell? ⟨g, o + 1, none⟩ = some (.int .i64 r.o.2.1)
  c2 : x.cell? ⟨g, o + 2, none⟩ = some (.int .i64 r.o.2.2)
  c3 : ∃ u, x.cell? ⟨g, o + 3, none⟩ = some u ∧ IRow 3 true x B x.heap.size u r.ns r.S
  c4 : ∃ u, x.cell? ⟨g, o + 4, none⟩ = some u ∧ IRow 2 true x B x.heap.size u r.nc r.C
theorem RwD.rwc {x : World} {B g o : Nat} {r : Rw} (h : RwD x B g o r) : RwC x g o r := by
  obtain ⟨c0, c1, c2, ⟨u3, c3, i3⟩, ⟨u4, c4, i4⟩⟩ := h
  exact ⟨c0, c1, c2, ⟨u3, c3, i3.any⟩, ⟨u4, c4, i4.any⟩⟩
theorem RwD.later {x y : World} {B g o : Nat} {r : Rw} (h : RwD x B g o r) (hb : Below x.heap.size x y) (hg : g < x.heap.size) : RwD y B g o r := by
  obtain ⟨c0, c1, c2, ⟨u3, c3, i3⟩, ⟨u4, c4, i4⟩⟩ := h
  exact ⟨(hb.cell (p := ⟨g, _, none⟩) hg).trans c0, (hb.cell (p := ⟨g, _, none⟩) hg).trans c1, (hb.cell (p := ⟨g, _, none⟩) hg).trans c2, ⟨u3, (hb.cell (p := ⟨g, _, none⟩) hg).trans c3, (i3.later hb).wide (Nat.le_refl _) hb.size (Nat.le_refl _)⟩, ⟨u4, (hb.cell (p := ⟨g, _, none⟩) hg).trans c4, (i4.later hb).wide (Nat.le_refl _) hb.size (Nat.le_refl _)⟩⟩
theorem IRow.offL {m : Nat} {z : Bool} {x : World} {B E : Nat} {v : Value} {n : Nat} {N : Nat → Int} (h : IRow m z x B E v n N) {b o : Nat} {M : List Value} (hb : b < B ∨ E ≤ b) : IRow m z (setL x b o M) B E v n N :=
  h.stay (by rw [setL_size]; exact Nat.le_refl _) fun g k h1 h2 => ⟨setL_miss _ _ _ _ _ _ (by omega), setL_frozen _ _ _ _ _⟩
/-- what stands in blocks from B on stays where one ahead is stored into -/
theorem RwD.offB {x : World} {B g o b q : Nat} {r : Rw} {M : List Value} (h : RwD x B g o r) (hB : b < B) (hbg : b ≠ g ∨ o + 5 ≤ q ∨ q + M.length ≤ o) : RwD (setL x b q M) B g o r := by
  obtain ⟨c0, c1, c2, ⟨u3, c3, i3⟩, ⟨u4, c4, i4⟩⟩ := h
  have far : ∀ k, k < 5 → (setL x b q M).cell? ⟨g, o + k, none⟩ = x.cell? ⟨g, o + k, none⟩ := fun k hk => setL_miss _ _ _ _ _ _ (by omega)
  refine ⟨(far 0 (by omega)).trans c0, (far 1 (by omega)).trans c1, (far 2 (by omega)).trans c2, ⟨u3, (far 3 (by omega)).trans c3, ?_⟩, ⟨u4, (far 4 (by omega)).trans c4, ?_⟩⟩
  · rw [setL_size]; exact i3.offL (.inl hB)
  · rw [setL_size]; exact i4.offL (.inl hB)
/-- new rows, in blocks from B on -/
def RowsD (x : World) (B : Nat) (v : Value) (R : List Rw) : Prop := ∃ g cap, v = .slice (some ⟨g, 0, none⟩) R.length cap ∧ R.length ≤ maxLen ∧ B ≤ g ∧ g < x.heap.size ∧ ∀ j, j < R.length → RwD x (g + 1) g (j * 5) (R.getD j rw0)
theorem RowsD.rows {x : World} {B : Nat} {v : Value} {R : List Rw} (h : RowsD x B v R) : RowsAt x v R := by
  obtain ⟨g, cap, hv, hm, hB, hg, hj⟩ := h
  exact ⟨_, cap, hv, hm, .inr ⟨g, 0, rfl, hg, fun j h => by rw [Nat.zero_add]; exact (hj j h).rwc⟩⟩
theorem RowsD.later {x y : World} {B : Nat} {v : Value} {R : List Rw} (h : RowsD x B v R) (hb : Below x.heap.size x y) : RowsD y B v R := by
  obtain ⟨g, cap, hv, hm, hB, hg, hj⟩ := h
  exact ⟨g, cap, hv, hm, hB, Nat.lt_of_lt_of_le hg hb.size, fun j h => (hj j h).later hb hg⟩
theorem RowsD.lower {x : World} {B C : Nat} {v : Value} {R : List Rw} (h : RowsD x B v R) (hc : C ≤ B) : RowsD x C v R := by
  obtain ⟨g, cap, hv, hm, hB, hg, hj⟩ := h
  exact ⟨g, cap, hv, hm, by omega, hg, hj⟩
theorem RowsD.offL {x : World} {B : Nat} {v : Value} {R : List Rw} (h : RowsD x B v R) {b q : Nat} {M : List Value} (hb : b < B) : RowsD (setL x b q M) B v R := by
  obtain ⟨g, cap, hv, hm, hB, hg, hj⟩ := h
  exact ⟨g, cap, hv, hm, hB, by rw [setL_size]; exact hg, fun j h => (hj j h).offB (by omega) (.inl (by omega))⟩

theorem infoRow : (Tryz.prog.info? 71).map (fun i => (i.zero, i.size, i.bytes)) = some (some (.agg #[.bool false, .int .i64 0, .int .i64 0, .slice none 0 0, .slice none 0 0]), 5, 72) := by kernel_rfl
set_option maxRecDepth 100000 in
set_option maxHeartbeats 4000000 in
theorem toRowS_new (x : World) (v : Value) (R : List Rw) (h : RowsAt x v R) (hsz : rowsSz R) :
    Calls Tryz.prog 34 #[v] x fun e y => ∃ u, e = .returned u ∧ RowsD y x.heap.size u R ∧ Below x.heap.size x y := by
  obtain ⟨i, hi, hz0, hz1, hz2⟩ : ∃ i, Tryz.prog.info? 71 = some i ∧ i.zero = some (.agg #[.bool false, .int .i64 0, .int .i64 0, .slice none 0 0, .slice none 0 0]) ∧ i.size = 5 ∧ i.bytes = 72 := info_parts infoRow
  have HI : Hid (Tryz.prog.info? 71 = some i ∧ i.zero = some (.agg #[.bool false, .int .i64 0, .int .i64 0, .slice none 0 0, .slice none 0 0]) ∧ i.size = 5 ∧ i.bytes = 72) := ⟨hi, hz0, hz1, hz2⟩
  clear hi hz0 hz1 hz2
  obtain ⟨p, cap, rfl, hm, hc⟩ := h
  obtain ⟨hn, hall⟩ := hsz
  generalize hL : R.length = n at *
  have HL : Hid (R.length = n) := hL
  have HN : Hid (n ≤ 1048576) := hn
  have HA : Hid (∀ j, j < n → rwSz (R.getD j rw0)) := hall
  have hni : (n : Int) ≤ 1048576 := by omega
  have HM : Hid (n ≤ maxLen) := hm
  clear hL hn hm hall
  go_enter Tryz.func34, Tryz.ntmps34
  go_wp2_with (refine wpList_make_full _ rfl _ _ 31 rfl x.heap.size 71 i (.agg #[.bool false, .int .i64 0, .int .i64 0, .slice none 0 0, .slice none 0 0]) 5 Tryz.underlying31 HI.out.1 HI.out.2.1 HI.out.2.2.1 .i64 .i64 n n n rfl rfl rfl rfl ?b2 HM.out (Nat.le_refl _) ?_)
  case b2 => rw [HI.out.2.2.2]; have := HN.out; omega
  intro w1 hown0 hgr
  obtain ⟨xs, hown⟩ : ∃ xs, w1.ownsRow x.heap.size 71 5 (.slice (some ⟨x.heap.size, 0, none⟩) n n) n xs := ⟨_, hown0⟩
  clear hown0
  have hg1 : x.heap.size < w1.heap.size := (World.ownsRow.lt hown x.heap.size rfl).2
  have hB1 : Below x.heap.size x w1 := (Below.refl _ _).grown hgr (Nat.le_refl _) (fun k hk => by simp at hk)
  have hcell : ∀ k, k < n * 5 → ∃ v, w1.cell? ⟨x.heap.size, k, none⟩ = some v := by
    intro k hk
    have hl : k < xs.length := by rw [hown.1]; exact hk
    have := World.ownsRow.cells hown rfl k _ (List.getElem?_eq_getElem hl)
    rw [Addr.add_mid, Nat.zero_add] at this
    exact ⟨_, this⟩
  have hfz : ∀ k, w1.frozen? ⟨x.heap.size, k, none⟩ = false := fun k => World.ownsRow.frozenAt hown k
  clear hown hgr
  go_wp2_with fail
  go_loopw [4] (fun t y => ∃ k : Nat, k ≤ n ∧ t = .int .i64 k ∧ Below x.heap.size x y ∧ x.heap.size < y.heap.size ∧ (∀ j, j < n * 5 → ∃ v, y.cell? ⟨x.heap.size, j, none⟩ = some v) ∧ (∀ j, y.frozen? ⟨x.heap.size, j, none⟩ = false) ∧ (∀ j, j < k → RwD y (x.heap.size + 1) x.heap.size (j * 5) (R.getD j rw0))) (fun t _ => n - (intOf t).toNat)
  case atStart => exact ⟨0, by omega, rfl, hB1, hg1, hcell, hfz, fun j hj => by omega⟩
  case round =>
    clear hB1 hg1 hcell hfz
    obtain ⟨k, hk, rfl, hB, hg, hcell, hfz, hdone⟩ := hrel
    by_cases hlt : k < n
    · rcases hc with h0 | ⟨g, o, rfl, hgx, hins⟩
      · omega
      have hki : (k : Int) < (n : Int) := by omega
      obtain ⟨d0, d1, d2, ⟨u3, d3, i3⟩, ⟨u4, d4, i4⟩⟩ := (hins k hlt).later hB hgx
      have HC : Hid (∀ j, j < n * 5 → ∃ v, wr.cell? ⟨x.heap.size, j, none⟩ = some v) := hcell
      have HF : Hid (∀ j, wr.frozen? ⟨x.heap.size, j, none⟩ = false) := hfz
      have HD : Hid (∀ j, j < k → RwD wr (x.heap.size + 1) x.heap.size (j * 5) (R.getD j rw0)) := hdone
      have HBB : Hid (Below x.heap.size x wr) := hB
      have HLL : Hid (rwSz (R.getD k rw0)) := HA.out k hlt
      have HI3 : Hid (IRowW 3 wr u3 (R.getD k rw0).ns (R.getD k rw0).S) := i3
      have HI4 : Hid (IRowW 2 wr u4 (R.getD k rw0).nc (R.getD k rw0).C) := i4
      obtain ⟨p3, k3, rfl⟩ := i3.shape
      obtain ⟨p4, k4, rfl⟩ := i4.shape
      clear hcell hdone hins hfz i3 i4 hB
      generalize hI : R.getD k rw0 = f at *
      have HII : Hid (R.getD k rw0 = f) := hI
      clear hI
      go_wp2_with fail
      refine (toRow_any wr f _ _ HI3.out HI4.out HLL.out).mono ?_
      rintro e w2 ⟨v3, v4, rfl, q3, q4, hb2⟩
      obtain ⟨p3', k3', rfl⟩ := q3.shape
      obtain ⟨p4', k4', rfl⟩ := q4.shape
      unfold aggRw
      have H3 : Hid (IRow 3 true w2 (x.heap.size + 1) w2.heap.size (.slice p3' f.ns k3') f.ns f.S) := q3.wide (by omega) (Nat.le_refl _) (Nat.le_refl _)
      have H4 : Hid (IRow 2 true w2 (x.heap.size + 1) w2.heap.size (.slice p4' f.nc k4') f.nc f.C) := q4.wide (by omega) (Nat.le_refl _) (Nat.le_refl _)
      have HB2 : Hid (Below x.heap.size x w2) := HBB.out.trans (hb2.mono HBB.out.size)
      have HC2 : Hid (∀ j, j < n * 5 → ∃ v, w2.cell? ⟨x.heap.size, j, none⟩ = some v) := fun j hj => by
        obtain ⟨v, hv⟩ := HC.out j hj
        exact ⟨v, (hb2.cell (p := ⟨x.heap.size, j, none⟩) hg).trans hv⟩
      have HF2 : Hid (∀ j, w2.frozen? ⟨x.heap.size, j, none⟩ = false) := fun j => (hb2.frozen (p := ⟨x.heap.size, j, none⟩) hg).trans (HF.out j)
      have HD2 : Hid (∀ j, j < k → RwD w2 (x.heap.size + 1) x.heap.size (j * 5) (R.getD j rw0)) := fun j hj => (HD.out j hj).later hb2 hg
      have hg2 : x.heap.size < w2.heap.size := Nat.lt_of_lt_of_le hg hb2.size
      obtain ⟨e0, z0⟩ := HC2.out (k * 5) (by omega)
      obtain ⟨e1, z1⟩ := HC2.out (k * 5 + 1) (by omega)
      obtain ⟨e2, z2⟩ := HC2.out (k * 5 + 2) (by omega)
      obtain ⟨e3, z3⟩ := HC2.out (k * 5 + 3) (by omega)
      obtain ⟨e4, z4⟩ := HC2.out (k * 5 + 4) (by omega)
      have f0 := HF2.out (k * 5)
      have f1 := HF2.out (k * 5 + 1)
      have f2 := HF2.out (k * 5 + 2)
      have f3 := HF2.out (k * 5 + 3)
      have f4 := HF2.out (k * 5 + 4)
      clear d0 d1 d2 d3 d4 q3 q4 hb2 HC HF HD HBB HI3 HI4 HLL
      go_wp2_with fail
      go_roundw
      case rel =>
        refine ⟨k + 1, by omega, by go_num, ?_⟩
        generalize hM : [Value.bool f.o.1, .int .i64 f.o.2.1, .int .i64 f.o.2.2, .slice p3' f.ns k3', .slice p4' f.nc k4'] = M
        have hMl : M.length = 5 := by rw [← hM]; rfl
        have hgo : ∀ y, y = setL w2 x.heap.size (k * 5) M → (Below x.heap.size x y ∧ x.heap.size < y.heap.size ∧ (∀ j, j < n * 5 → ∃ v, y.cell? ⟨x.heap.size, j, none⟩ = some v) ∧ (∀ j, y.frozen? ⟨x.heap.size, j, none⟩ = false) ∧ (∀ j, j < k + 1 → RwD y (x.heap.size + 1) x.heap.size (j * 5) (R.getD j rw0))) := by
          intro y hy
          subst hy
          refine ⟨setL_below M HB2.out (Nat.le_refl _), by rw [setL_size]; exact hg2, fun j hj => setL_some _ _ _ _ _ (HC2.out j hj), fun j => (setL_frozen _ _ _ _ _).trans (HF2.out j), fun j hj => ?_⟩
          by_cases hjk : j = k
          · subst hjk
            rw [HII.out]
            have hh := setL_hit w2 x.heap.size (j * 5) M (fun i hi => HC2.out _ (by omega))
            subst hM
            refine ⟨hh 0 _ rfl, hh 1 _ rfl, hh 2 _ rfl, ⟨_, hh 3 _ rfl, ?_⟩, ⟨_, hh 4 _ rfl, ?_⟩⟩
            · rw [setL_size]; exact H3.out.offL (.inl (by omega))
            · rw [setL_size]; exact H4.out.offL (.inl (by omega))
          · exact (HD2.out j (by omega)).offB (by omega) (.inr (by omega))
        exact hgo _ (by rw [← hM]; rfl)
      case measure => simp [intOf]; omega
    · obtain rfl : k = n := by omega
      have hki : ¬ (k : Int) < (k : Int) := by omega
      have HD : Hid (∀ j, j < k → RwD wr (x.heap.size + 1) x.heap.size (j * 5) (R.getD j rw0)) := hdone
      clear hcell hdone hc hfz
      go_wp2_with fail
      go_ret
      exact ⟨_, rfl, ⟨x.heap.size, k, by rw [HL.out]; rfl, by rw [HL.out]; exact HM.out, Nat.le_refl _, hg, fun j hj => by rw [HL.out] at hj; exact HD.out j hj⟩, hB⟩

end Go.Proofs.YtlkebkajdlgebaaGreat

/-
  Whether a row is ok: the contract of rowOk, given one of callsOf.
-/
namespace Go.Proofs.YtlkebkajdlgebaaGreat
open Go.RowKit
set_option linter.unusedVariables false
set_option linter.unusedSimpArgs false

/-- callsOf of this code gives the numbers of which q holds -/
def CallsOfIs (B : Nat) (code : List I4) (q : Int → Bool) : Prop := ∀ (y : World) (uc : Value), CodeAt y B uc code → Calls Tryz.prog 108 #[.agg #[uc]] y fun e z => ∃ w L, e = .returned w ∧ IntsW z w L ∧ (∀ m, decide (m ∈ L) = q m) ∧ Below y.heap.size y z
def rowF (P : List (List I4)) (k : Int) (q : Int → Bool) (r : Rw) : Bool := okF r.o.1 r.o.2.1 r.o.2.2 && sitesF P k r.ns r.S && callsF q r.nc r.C
set_option maxRecDepth 100000 in
set_option maxHeartbeats 4000000 in
theorem rowOk_of (x0 : World) (B : Nat) (v : Value) (P : List (List I4)) (h : ProgAt x0 B v P) (hok : progOkF P = true) (k0 : Nat) (hk0 : k0 < P.length) (r : Rw) (u w : Value) (hs : IRowW 3 x0 u r.ns r.S) (hc : IRowW 2 x0 w r.nc r.C) (q : Int → Bool) (HC : CallsOfIs B (P.getD k0 []) q) :
    Calls Tryz.prog 59 #[v, .int .i64 k0, aggRw r u w] x0 fun e y => e = .returned (.bool (rowF P k0 q r)) ∧ Below x0.heap.size x0 y := by
  obtain ⟨⟨a, l, uu⟩, ns, S, nc, C⟩ := r
  dsimp only at hs hc
  obtain ⟨pp, cp, rfl, _⟩ := h.shape
  obtain ⟨ps, cs, rfl⟩ := hs.shape
  obtain ⟨pc, cc, rfl⟩ := hc.shape
  have HF : Hid (rowF P k0 q ⟨(a, l, uu), ns, S, nc, C⟩ = (okF a l uu && sitesF P k0 ns S && callsF q nc C)) := rfl
  generalize rowF P k0 q ⟨(a, l, uu), ns, S, nc, C⟩ = F at HF ⊢
  have HP : Hid (ProgAt x0 B (.slice pp P.length cp) P) := h
  have HOK : Hid (progOkF P = true) := hok
  have HS : Hid (IRowW 3 x0 (.slice ps ns cs) ns S) := hs
  have HCC : Hid (IRowW 2 x0 (.slice pc nc cc) nc C) := hc
  have HK : Hid (k0 < P.length ∧ CallsOfIs B (P.getD k0 []) q) := ⟨hk0, HC⟩
  unfold aggRw
  dsimp only
  clear h hok hs hc hk0 HC
  go_enter Tryz.func59, Tryz.ntmps59
  go_wp2_with fail
  have HX : Hid (Below x0.heap.size x0 (x0.alloc (.cells #[.bool a, .int .i64 l, .int .i64 uu, .slice ps ns cs, .slice pc nc cc] 71))) := (Below.refl _ _).alloc (Nat.le_refl _) _
  have KX : Hid (BxN (x0.alloc (.cells #[.bool a, .int .i64 l, .int .i64 uu, .slice ps ns cs, .slice pc nc cc] 71)) x0.heap.size [.bool a, .int .i64 l, .int .i64 uu, .slice ps ns cs, .slice pc nc cc]) := BxN.new x0 [_, _, _, _, _] _
  generalize x0.alloc (.cells #[.bool a, .int .i64 l, .int .i64 uu, .slice ps ns cs, .slice pc nc cc] 71) = X at HX KX ⊢
  refine (ok_impl a l uu X).mono ?_
  rintro e y ⟨rfl, hb⟩
  have HY : Hid (Below x0.heap.size x0 y) := HX.out.trans (hb.mono HX.out.size)
  have KY := KX.out.laterH hb
  clear hb HX KX
  cases h1 : okF a l uu
  · go_wp2_with fail
    go_ret
    exact ⟨ret_bool (by rw [HF.out, h1]; rfl), HY.out⟩
  · have a3 := KY.out.c 3 _ rfl
    have l3 := KY.out.lt
    have HF2 : Hid (F = (sitesF P k0 ns S && callsF q nc C)) := by show _ = _; rw [HF.out, h1]; rfl
    clear HF h1
    go_wp2_with fail
    refine (sitesOk_any y B _ P (HP.out.later HY.out) HOK.out k0 _ ns S (HS.out.later HY.out)).mono ?_
    rintro e z ⟨rfl, hb⟩
    have HZ : Hid (Below x0.heap.size x0 z) := HY.out.trans (hb.mono HY.out.size)
    have KZ := KY.out.laterH hb
    clear hb HY KY a3 l3
    cases h2 : sitesF P k0 ns S
    · go_wp2_with fail
      go_ret
      exact ⟨ret_bool (by rw [HF2.out, h2]; rfl), HZ.out⟩
    · have a4 := KZ.out.c 4 _ rfl
      have l4 := KZ.out.lt
      have HF3 : Hid (F = callsF q nc C) := by show _ = _; rw [HF2.out, h2]; rfl
      clear HF2 h2
      go_wp2_with fail
      refine (callsOk_of z B _ P (HP.out.later HZ.out) HOK.out k0 HK.out.1 _ nc C (HCC.out.later HZ.out) q HK.out.2).mono ?_
      rintro e z2 ⟨rfl, hb⟩
      have HZ2 : Hid (Below x0.heap.size x0 z2) := HZ.out.trans (hb.mono HZ.out.size)
      clear hb a4 l4 KZ
      go_wp2_with fail
      go_ret
      exact ⟨ret_bool (by rw [HF3.out]), HZ2.out⟩

end Go.Proofs.YtlkebkajdlgebaaGreat

/-
  Whether a site is ok: the contract of the model's l3SiteOk.
-/
namespace Go.Proofs.YtlkebkajdlgebaaGreat
open Go.RowKit
set_option linter.unusedVariables false
set_option linter.unusedSimpArgs false

theorem eqb2 (a b : Int) (h : ¬ a = 0) : (b == a) = (!decide (a = 0) && decide (b = a)) := by
  by_cases h6 : b = a
  · subst h6; simp [h]
  · simp [h, h6]
theorem l6In_b (n lo hi : Int) (v : Bool) (h : inI n lo hi = v) (w : World) : Calls Tryz.prog 48 #[.int .i64 n, .int .i64 lo, .int .i64 hi] w fun e w' => e = .returned (.bool v) ∧ Below w.heap.size w w' := by
  subst h
  refine (l6In_e n lo hi w).mono ?_
  rintro e w' ⟨rfl, rfl⟩
  exact ⟨rfl, Below.refl _ _⟩

set_option maxRecDepth 100000 in
set_option maxHeartbeats 8000000 in
theorem l3SiteOk_any (x0 : World) (B : Nat) (v : Value) (P : List (List I4)) (h : ProgAt x0 B v P) (hok : progOkF P = true) (s : Int × Int × Int) :
    Calls Tryz.prog 50 #[v, .agg #[.int .i64 s.1, .int .i64 s.2.1, .int .i64 s.2.2]] x0 fun e y => e = .returned (.bool (siteOkF P s)) ∧ Below x0.heap.size x0 y := by
  obtain ⟨n0, n1, n2⟩ := s
  obtain ⟨p, cap, rfl, _⟩ := h.shape
  have H : Hid (ProgAt x0 B (.slice p P.length cap) P) := h
  have hl := progOkF_len hok
  have HOK : Hid (progOkF P = true) := hok
  have hn4 : (P.length : Int) ≤ 4 := by omega
  have hn1 : 1 ≤ (P.length : Int) := by omega
  have HFr : Hid (siteOkF P (n0, n1, n2) = (inI n0 0 (P.length - 1) && inI n1 0 ((P.getD n0.toNat []).length - 1) && !decide (n2 = 0) && decide (faultF ((P.getD n0.toNat []).getD n1.toNat i0) = n2))) := rfl
  generalize hFF : siteOkF P (n0, n1, n2) = FF at HFr
  clear hFF h hok hl
  dsimp only
  have HAl : Hid (Below x0.heap.size x0 (x0.alloc (.cells #[.int .i64 n0, .int .i64 n1, .int .i64 n2] 94))) := (Below.refl _ _).alloc (Nat.le_refl _) _
  have K00 : Hid (BxN (x0.alloc (.cells #[.int .i64 n0, .int .i64 n1, .int .i64 n2] 94)) x0.heap.size [.int .i64 n0, .int .i64 n1, .int .i64 n2]) := BxN.new x0 [_, _, _] _
  cases g1 : inI n0 0 (P.length - 1)
  · generalize P.length = pn at *
    go_enter Tryz.func50, Tryz.ntmps50
    go_wp2_with fail
    generalize x0.alloc (.cells #[.int .i64 n0, .int .i64 n1, .int .i64 n2] 94) = X at HAl K00 ⊢
    refine wp_region_vals (by kernel_rfl) (by kernel_rfl) (by kernel_rfl) (by kernel_rfl) (fun j => [.pointer (some ⟨x0.heap.size, 0, none⟩), .int .i64 n0, .slice p pn cap, .int .i64 pn, .int .i64 ((pn : Int) - 1), .bool false, .bool false, undef, undef, undef, undef, undef, undef, undef, undef, undef, undef, undef, .bool false, .bool false, undef, undef, undef, .bool false, .bool false, undef, undef, undef, undef, undef, undef, undef, undef, undef, undef, undef, undef, undef, undef, .bool false, .bool false].getD j undef) X (Below.drew (Below.refl _ _)) ?step ⟨#[.slice p pn cap, .agg #[.int .i64 n0, .int .i64 n1, .int .i64 n2], undef, .pointer (some ⟨x0.heap.size, 0, none⟩), .bool false, .pointer (some ⟨x0.heap.size, 0, none⟩), .int .i64 n0, .slice p pn cap, .int .i64 pn, .int .i64 ((pn : Int) - 1), .bool false, .bool false, undef, undef, undef, undef, undef, undef, undef, undef, undef, undef, undef, .bool false, .bool false, undef, undef, undef, .bool false, .bool false, undef, undef, undef, undef, undef, undef, undef, undef, undef, undef, undef, undef, undef, undef, .bool false], []⟩ (by kernel_rfl) ?fin
    case step =>
      intro i o ho ρ y x hBx hdep hout
      rcases i with _ | i
      · obtain rfl := Option.some.inj ho
        have o3 : ρ (.tmp 3) = .pointer (some ⟨x0.heap.size, 0, none⟩) := hout (.tmp 3) rfl
        clear hdep hout
        refine .inl ⟨rfl, (Gives.val ?_ : Gives _ _ _ (.pointer (some ⟨x0.heap.size, 0, none⟩)) _)⟩
        go_simp
      rcases i with _ | i
      · obtain rfl := Option.some.inj ho
        have e0 : ρ (.tmp 5) = .pointer (some ⟨x0.heap.size, 0, none⟩) := (hdep ⟨0, .data⟩ (by simp) rfl).1 5 rfl
        clear hdep hout
        have kb := K00.out.later hBx
        have c0 := kb.c 0 _ rfl
        have c1 := kb.c 1 _ rfl
        have c2 := kb.c 2 _ rfl
        have cl0 := kb.lt
        refine .inl ⟨rfl, (Gives.val ?_ : Gives _ _ _ (.int .i64 n0) _)⟩
        go_simp
      rcases i with _ | i
      · obtain rfl := Option.some.inj ho
        have o0 : ρ (.tmp 0) = .slice p pn cap := hout (.tmp 0) rfl
        clear hdep hout
        refine .inl ⟨rfl, (Gives.val ?_ : Gives _ _ _ (.slice p pn cap) _)⟩
        go_simp
      rcases i with _ | i
      · obtain rfl := Option.some.inj ho
        have e2 : ρ (.tmp 7) = .slice p pn cap := (hdep ⟨2, .data⟩ (by simp) rfl).1 7 rfl
        clear hdep hout
        refine .inl ⟨rfl, (Gives.val ?_ : Gives _ _ _ (.int .i64 pn) _)⟩
        go_simp
      rcases i with _ | i
      · obtain rfl := Option.some.inj ho
        have e3 : ρ (.tmp 8) = .int .i64 pn := (hdep ⟨3, .data⟩ (by simp) rfl).1 8 rfl
        have ocn : ∀ v, ρ (.const v) = v := fun v => hout (.const v) rfl
        clear hdep hout
        refine .inl ⟨rfl, (Gives.val ?_ : Gives _ _ _ (.int .i64 ((pn : Int) - 1)) _)⟩
        (go_simp; exact IntWalk.i64_in _ (by omega))
      rcases i with _ | i
      · obtain rfl := Option.some.inj ho
        have e1 : ρ (.tmp 6) = .int .i64 n0 := (hdep ⟨1, .data⟩ (by simp) rfl).1 6 rfl
        have e4 : ρ (.tmp 9) = .int .i64 ((pn : Int) - 1) := (hdep ⟨4, .data⟩ (by simp) rfl).1 9 rfl
        have ocn : ∀ v, ρ (.const v) = v := fun v => hout (.const v) rfl
        have ofn : ∀ f, ρ (.func f) = .func (.func f) #[] #[] := fun f => hout (.func f) rfl
        clear hdep hout
        refine .inl ⟨?_, ?_⟩
        · rfl
        show Gives _ _ _ (.bool false) _
        refine Gives.call (l6In_b n0 0 ((pn : Int) - 1) false g1 x) ?_
        go_simp
      rcases i with _ | i
      · obtain rfl := Option.some.inj ho
        have e5 : ρ (.tmp 10) = .bool false := (hdep ⟨5, .data⟩ (by simp) rfl).1 10 rfl
        clear hdep hout
        refine .inl ⟨rfl, (Gives.val ?_ : Gives _ _ _ (.bool false) _)⟩
        go_simp
      rcases i with _ | i
      · obtain rfl := Option.some.inj ho
        have yg : y 6 = some false := (hdep ⟨6, .guard⟩ (by simp) rfl).2 11 rfl
        exact .inr ⟨by show (y 6 == some true) = false; rw [yg]; rfl, rfl⟩
      rcases i with _ | i
      · obtain rfl := Option.some.inj ho
        have yg : y 6 = some false := (hdep ⟨6, .guard⟩ (by simp) rfl).2 11 rfl
        exact .inr ⟨by show (y 6 == some true) = false; rw [yg]; rfl, rfl⟩
      rcases i with _ | i
      · obtain rfl := Option.some.inj ho
        have yg : y 6 = some false := (hdep ⟨6, .guard⟩ (by simp) rfl).2 11 rfl
        exact .inr ⟨by show (y 6 == some true) = false; rw [yg]; rfl, rfl⟩
      rcases i with _ | i
      · obtain rfl := Option.some.inj ho
        have yg : y 6 = some false := (hdep ⟨6, .guard⟩ (by simp) rfl).2 11 rfl
        exact .inr ⟨by show (y 6 == some true) = false; rw [yg]; rfl, rfl⟩
      rcases i with _ | i
      · obtain rfl := Option.some.inj ho
        have yg : y 6 = some false := (hdep ⟨6, .guard⟩ (by simp) rfl).2 11 rfl
        exact .inr ⟨by show (y 6 == some true) = false; rw [yg]; rfl, rfl⟩
      rcases i with _ | i
      · obtain rfl := Option.some.inj ho
        have yg : y 6 = some false := (hdep ⟨6, .guard⟩ (by simp) rfl).2 11 rfl
        exact .inr ⟨by show (y 6 == some true) = false; rw [yg]; rfl, rfl⟩
      rcases i with _ | i
      · obtain rfl := Option.some.inj ho
        have yg : y 6 = some false := (hdep ⟨6, .guard⟩ (by simp) rfl).2 11 rfl
        exact .inr ⟨by show (y 6 == some true) = false; rw [yg]; rfl, rfl⟩
      rcases i with _ | i
      · obtain rfl := Option.some.inj ho
        have yg : y 6 = some false := (hdep ⟨6, .guard⟩ (by simp) rfl).2 11 rfl
        exact .inr ⟨by show (y 6 == some true) = false; rw [yg]; rfl, rfl⟩
      rcases i with _ | i
      · obtain rfl := Option.some.inj ho
        have yg : y 6 = some false := (hdep ⟨6, .guard⟩ (by simp) rfl).2 11 rfl
        exact .inr ⟨by show (y 6 == some true) = false; rw [yg]; rfl, rfl⟩
      rcases i with _ | i
      · obtain rfl := Option.some.inj ho
        have yg : y 6 = some false := (hdep ⟨6, .guard⟩ (by simp) rfl).2 11 rfl
        exact .inr ⟨by show (y 6 == some true) = false; rw [yg]; rfl, rfl⟩
      rcases i with _ | i
      · obtain rfl := Option.some.inj ho
        have yg : y 6 = some false := (hdep ⟨6, .guard⟩ (by simp) rfl).2 11 rfl
        exact .inr ⟨by show (y 6 == some true) = false; rw [yg]; rfl, rfl⟩
      rcases i with _ | i
      · obtain rfl := Option.some.inj ho
        have e6 : ρ (.tmp 11) = .bool false := (hdep ⟨6, .data⟩ (by simp) rfl).1 11 rfl
        have e17 : ρ (.tmp 22) = undef := (hdep ⟨17, .data⟩ (by simp) rfl).1 22 rfl
        have ocn : ∀ v, ρ (.const v) = v := fun v => hout (.const v) rfl
        clear hdep hout
        refine .inl ⟨rfl, (Gives.val ?_ : Gives _ _ _ (.bool false) _)⟩
        go_simp
      rcases i with _ | i
      · obtain rfl := Option.some.inj ho
        have e18 : ρ (.tmp 23) = .bool false := (hdep ⟨18, .data⟩ (by simp) rfl).1 23 rfl
        clear hdep hout
        refine .inl ⟨rfl, (Gives.val ?_ : Gives _ _ _ (.bool false) _)⟩
        go_simp
      rcases i with _ | i
      · obtain rfl := Option.some.inj ho
        have yg : y 19 = some false := (hdep ⟨19, .guard⟩ (by simp) rfl).2 24 rfl
        exact .inr ⟨by show (y 19 == some true) = false; rw [yg]; rfl, rfl⟩
      rcases i with _ | i
      · obtain rfl := Option.some.inj ho
        have yg : y 19 = some false := (hdep ⟨19, .guard⟩ (by simp) rfl).2 24 rfl
        exact .inr ⟨by show (y 19 == some true) = false; rw [yg]; rfl, rfl⟩
      rcases i with _ | i
      · obtain rfl := Option.some.inj ho
        have yg : y 19 = some false := (hdep ⟨19, .guard⟩ (by simp) rfl).2 24 rfl
        exact .inr ⟨by show (y 19 == some true) = false; rw [yg]; rfl, rfl⟩
      rcases i with _ | i
      · obtain rfl := Option.some.inj ho
        have e19 : ρ (.tmp 24) = .bool false := (hdep ⟨19, .data⟩ (by simp) rfl).1 24 rfl
        have e22 : ρ (.tmp 27) = undef := (hdep ⟨22, .data⟩ (by simp) rfl).1 27 rfl
        have ocn : ∀ v, ρ (.const v) = v := fun v => hout (.const v) rfl
        clear hdep hout
        refine .inl ⟨rfl, (Gives.val ?_ : Gives _ _ _ (.bool false) _)⟩
        go_simp
      rcases i with _ | i
      · obtain rfl := Option.some.inj ho
        have e23 : ρ (.tmp 28) = .bool false := (hdep ⟨23, .data⟩ (by simp) rfl).1 28 rfl
        clear hdep hout
        refine .inl ⟨rfl, (Gives.val ?_ : Gives _ _ _ (.bool false) _)⟩
        go_simp
      rcases i with _ | i
      · obtain rfl := Option.some.inj ho
        have yg : y 24 = some false := (hdep ⟨24, .guard⟩ (by simp) rfl).2 29 rfl
        exact .inr ⟨by show (y 24 == some true) = false; rw [yg]; rfl, rfl⟩
      rcases i with _ | i
      · obtain rfl := Option.some.inj ho
        have yg : y 24 = some false := (hdep ⟨24, .guard⟩ (by simp) rfl).2 29 rfl
        exact .inr ⟨by show (y 24 == some true) = false; rw [yg]; rfl, rfl⟩
      rcases i with _ | i
      · obtain rfl := Option.some.inj ho
        have yg : y 24 = some false := (hdep ⟨24, .guard⟩ (by simp) rfl).2 29 rfl
        exact .inr ⟨by show (y 24 == some true) = false; rw [yg]; rfl, rfl⟩
      rcases i with _ | i
      · obtain rfl := Option.some.inj ho
        have yg : y 24 = some false := (hdep ⟨24, .guard⟩ (by simp) rfl).2 29 rfl
        exact .inr ⟨by show (y 24 == some true) = false; rw [yg]; rfl, rfl⟩
      rcases i with _ | i
      · obtain rfl := Option.some.inj ho
        have yg : y 24 = some false := (hdep ⟨24, .guard⟩ (by simp) rfl).2 29 rfl
        exact .inr ⟨by show (y 24 == some true) = false; rw [yg]; rfl, rfl⟩
      rcases i with _ | i
      · obtain rfl := Option.some.inj ho
        have yg : y 24 = some false := (hdep ⟨24, .guard⟩ (by simp) rfl).2 29 rfl
        exact .inr ⟨by show (y 24 == some true) = false; rw [yg]; rfl, rfl⟩
      rcases i with _ | i
      · obtain rfl := Option.some.inj ho
        have yg : y 24 = some false := (hdep ⟨24, .guard⟩ (by simp) rfl).2 29 rfl
        exact .inr ⟨by show (y 24 == some true) = false; rw [yg]; rfl, rfl⟩
      rcases i with _ | i
      · obtain rfl := Option.some.inj ho
        have yg : y 24 = some false := (hdep ⟨24, .guard⟩ (by simp) rfl).2 29 rfl
        exact .inr ⟨by show (y 24 == some true) = false; rw [yg]; rfl, rfl⟩
      rcases i with _ | i
      · obtain rfl := Option.some.inj ho
        have yg : y 24 = some false := (hdep ⟨24, .guard⟩ (by simp) rfl).2 29 rfl
        exact .inr ⟨by show (y 24 == some true) = false; rw [yg]; rfl, rfl⟩
      rcases i with _ | i
      · obtain rfl := Option.some.inj ho
        have yg : y 24 = some false := (hdep ⟨24, .guard⟩ (by simp) rfl).2 29 rfl
        exact .inr ⟨by show (y 24 == some true) = false; rw [yg]; rfl, rfl⟩
      rcases i with _ | i
      · obtain rfl := Option.some.inj ho
        have yg : y 24 = some false := (hdep ⟨24, .guard⟩ (by simp) rfl).2 29 rfl
        exact .inr ⟨by show (y 24 == some true) = false; rw [yg]; rfl, rfl⟩
      rcases i with _ | i
      · obtain rfl := Option.some.inj ho
        have yg : y 24 = some false := (hdep ⟨24, .guard⟩ (by simp) rfl).2 29 rfl
        exact .inr ⟨by show (y 24 == some true) = false; rw [yg]; rfl, rfl⟩
      rcases i with _ | i
      · obtain rfl := Option.some.inj ho
        have yg : y 24 = some false := (hdep ⟨24, .guard⟩ (by simp) rfl).2 29 rfl
        exact .inr ⟨by show (y 24 == some true) = false; rw [yg]; rfl, rfl⟩
      rcases i with _ | i
      · obtain rfl := Option.some.inj ho
        have yg : y 24 = some false := (hdep ⟨24, .guard⟩ (by simp) rfl).2 29 rfl
        exact .inr ⟨by show (y 24 == some true) = false; rw [yg]; rfl, rfl⟩
      rcases i with _ | i
      · obtain rfl := Option.some.inj ho
        have e24 : ρ (.tmp 29) = .bool false := (hdep ⟨24, .data⟩ (by simp) rfl).1 29 rfl
        have e38 : ρ (.tmp 43) = undef := (hdep ⟨38, .data⟩ (by simp) rfl).1 43 rfl
        have ocn : ∀ v, ρ (.const v) = v := fun v => hout (.const v) rfl
        clear hdep hout
        refine .inl ⟨rfl, (Gives.val ?_ : Gives _ _ _ (.bool false) _)⟩
        go_simp
      rcases i with _ | i
      · obtain rfl := Option.some.inj ho
        have e39 : ρ (.tmp 44) = .bool false := (hdep ⟨39, .data⟩ (by simp) rfl).1 44 rfl
        clear hdep hout
        refine .inl ⟨rfl, (Gives.val ?_ : Gives _ _ _ (.bool false) _)⟩
        go_simp
      cases ho
    case fin =>
      intro x hBx
      have hBf := HAl.out.trans (hBx.mono HAl.out.size)
      go_wp2_with fail
      go_ret
      exact ⟨retBool (by rw [HFr.out, g1]; rfl), hBf⟩
  · obtain ⟨k, rfl⟩ : ∃ k : Nat, n0 = k := ⟨n0.toNat, by simp only [inI, Bool.and_eq_true, decide_eq_true_eq] at g1; omega⟩
    have hk' : k < P.length := by simp only [inI, Bool.and_eq_true, decide_eq_true_eq] at g1; omega
    have hcode := progOkF_code HOK.out hk'
    obtain ⟨g, o, uu, rfl, hg, hu, hc⟩ := H.out.code hk'
    obtain ⟨pk, ck, rfl, _⟩ := hc.shape
    have HFr2 : Hid (FF = (inI n1 0 ((P.getD k []).length - 1) && !decide (n2 = 0) && decide (faultF ((P.getD k []).getD n1.toNat i0) = n2))) := by
      show FF = _
      rw [HFr.out, g1]; simp
    have HC : Hid (CodeAt x0 B (.slice pk (P.getD k []).length ck) (P.getD k [])) := hc
    have HCO : Hid ((P.getD k []).length ≤ 8 ∧ ∀ j, j < (P.getD k []).length → insOkF ((P.getD k []).getD j i0) (P.getD k []).length P.length = true) := hcode
    have hki : (k : Int) < (P.length : Int) := by omega
    have hc8i : ((P.getD k []).length : Int) ≤ 8 := by have := hcode.1; omega
    clear HFr hc hcode
    cases g2 : inI n1 0 ((P.getD k []).length - 1)
    · clear HCO HC
      generalize (P.getD k []).length = cl at *
      generalize P.length = pn at *
      go_enter Tryz.func50, Tryz.ntmps50
      go_wp2_with fail
      generalize x0.alloc (.cells #[.int .i64 k, .int .i64 n1, .int .i64 n2] 94) = X at HAl K00 ⊢
      refine wp_region_vals (by kernel_rfl) (by kernel_rfl) (by kernel_rfl) (by kernel_rfl) (fun j => [.pointer (some ⟨x0.heap.size, 0, none⟩), .int .i64 k, .slice (some ⟨g, o, none⟩) pn cap, .int .i64 pn, .int .i64 ((pn : Int) - 1), .bool true, .bool true, .pointer (some ⟨x0.heap.size, 1, none⟩), .int .i64 n1, .slice (some ⟨g, o, none⟩) pn cap, .pointer (some ⟨x0.heap.size, 0, none⟩), .int .i64 k, .pointer (some ⟨g, o + k, none⟩), .pointer (some ⟨g, o + k, none⟩), .slice pk cl ck, .int .i64 cl, .int .i64 ((cl : Int) - 1), .bool false, .bool false, .bool false, undef, undef, undef, .bool false, .bool false, undef, undef, undef, undef, undef, undef, undef, undef, undef, undef, undef, undef, undef, undef, .bool false, .bool false].getD j undef) X (Below.drew (Below.refl _ _)) ?step ⟨#[.slice (some ⟨g, o, none⟩) pn cap, .agg #[.int .i64 k, .int .i64 n1, .int .i64 n2], undef, .pointer (some ⟨x0.heap.size, 0, none⟩), .bool false, .pointer (some ⟨x0.heap.size, 0, none⟩), .int .i64 k, .slice (some ⟨g, o, none⟩) pn cap, .int .i64 pn, .int .i64 ((pn : Int) - 1), .bool true, .bool true, .pointer (some ⟨x0.heap.size, 1, none⟩), .int .i64 n1, .slice (some ⟨g, o, none⟩) pn cap, .pointer (some ⟨x0.heap.size, 0, none⟩), .int .i64 k, .pointer (some ⟨g, o + k, none⟩), .pointer (some ⟨g, o + k, none⟩), .slice pk cl ck, .int .i64 cl, .int .i64 ((cl : Int) - 1), .bool false, .bool false, .bool false, undef, undef, undef, .bool false, .bool false, undef, undef, undef, undef, undef, undef, undef, undef, undef, undef, undef, undef, undef, undef, .bool false], []⟩ (by kernel_rfl) ?fin
      case step =>
        intro i o ho ρ y x hBx hdep hout
        rcases i with _ | i
        · obtain rfl := Option.some.inj ho
          have o3 : ρ (.tmp 3) = .pointer (some ⟨x0.heap.size, 0, none⟩) := hout (.tmp 3) rfl
          clear hdep hout
          refine .inl ⟨rfl, (Gives.val ?_ : Gives _ _ _ (.pointer (some ⟨x0.heap.size, 0, none⟩)) _)⟩
          go_simp
        rcases i with _ | i
        · obtain rfl := Option.some.inj ho
          have e0 : ρ (.tmp 5) = .pointer (some ⟨x0.heap.size, 0, none⟩) := (hdep ⟨0, .data⟩ (by simp) rfl).1 5 rfl
          clear hdep hout
          have kb := K00.out.later hBx
          have c0 := kb.c 0 _ rfl
          have c1 := kb.c 1 _ rfl
          have c2 := kb.c 2 _ rfl
          have cl0 := kb.lt
          refine .inl ⟨rfl, (Gives.val ?_ : Gives _ _ _ (.int .i64 k) _)⟩
          go_simp
        rcases i with _ | i
        · obtain rfl := Option.some.inj ho
          have o0 : ρ (.tmp 0) = .slice (some ⟨g, o, none⟩) pn cap := hout (.tmp 0) rfl
          clear hdep hout
          refine .inl ⟨rfl, (Gives.val ?_ : Gives _ _ _ (.slice (some ⟨g, o, none⟩) pn cap) _)⟩
          go_simp
        rcases i with _ | i
        · obtain rfl := Option.some.inj ho
          have e2 : ρ (.tmp 7) = .slice (some ⟨g, o, none⟩) pn cap := (hdep ⟨2, .data⟩ (by simp) rfl).1 7 rfl
          clear hdep hout
          refine .inl ⟨rfl, (Gives.val ?_ : Gives _ _ _ (.int .i64 pn) _)⟩
          go_simp
        rcases i with _ | i
        · obtain rfl := Option.some.inj ho
          have e3 : ρ (.tmp 8) = .int .i64 pn := (hdep ⟨3, .data⟩ (by simp) rfl).1 8 rfl
          have ocn : ∀ v, ρ (.const v) = v := fun v => hout (.const v) rfl
          clear hdep hout
          refine .inl ⟨rfl, (Gives.val ?_ : Gives _ _ _ (.int .i64 ((pn : Int) - 1)) _)⟩
          (go_simp; exact IntWalk.i64_in _ (by omega))
        rcases i with _ | i
        · obtain rfl := Option.some.inj ho
          have e1 : ρ (.tmp 6) = .int .i64 k := (hdep ⟨1, .data⟩ (by simp) rfl).1 6 rfl
          have e4 : ρ (.tmp 9) = .int .i64 ((pn : Int) - 1) := (hdep ⟨4, .data⟩ (by simp) rfl).1 9 rfl
          have ocn : ∀ v, ρ (.const v) = v := fun v => hout (.const v) rfl
          have ofn : ∀ f, ρ (.func f) = .func (.func f) #[] #[] := fun f => hout (.func f) rfl
          clear hdep hout
          refine .inl ⟨?_, ?_⟩
          · rfl
          show Gives _ _ _ (.bool true) _
          refine Gives.call (l6In_b k 0 ((pn : Int) - 1) true g1 x) ?_
          go_simp
        rcases i with _ | i
        · obtain rfl := Option.some.inj ho
          have e5 : ρ (.tmp 10) = .bool true := (hdep ⟨5, .data⟩ (by simp) rfl).1 10 rfl
          clear hdep hout
          refine .inl ⟨rfl, (Gives.val ?_ : Gives _ _ _ (.bool true) _)⟩
          go_simp
        rcases i with _ | i
        · obtain rfl := Option.some.inj ho
          have o3 : ρ (.tmp 3) = .pointer (some ⟨x0.heap.size, 0, none⟩) := hout (.tmp 3) rfl
          have yg : y 6 = some true := (hdep ⟨6, .guard⟩ (by simp) rfl).2 11 rfl
          clear hdep hout
          refine .inl ⟨(by show (y 6 == some true) = true; rw [yg]; rfl), (Gives.val ?_ : Gives _ _ _ (.pointer (some ⟨x0.heap.size, 1, none⟩)) _)⟩
          go_simp
        rcases i with _ | i
        · obtain rfl := Option.some.inj ho
          have e7 : ρ (.tmp 12) = .pointer (some ⟨x0.heap.size, 1, none⟩) := (hdep ⟨7, .data⟩ (by simp) rfl).1 12 rfl
          have yg : y 6 = some true := (hdep ⟨6, .guard⟩ (by simp) rfl).2 11 rfl
          clear hdep hout
          have kb := K00.out.later hBx
          have c0 := kb.c 0 _ rfl
          have c1 := kb.c 1 _ rfl
          have c2 := kb.c 2 _ rfl
          have cl0 := kb.lt
          refine .inl ⟨(by show (y 6 == some true) = true; rw [yg]; rfl), (Gives.val ?_ : Gives _ _ _ (.int .i64 n1) _)⟩
          go_simp
        rcases i with _ | i
        · obtain rfl := Option.some.inj ho
          have o0 : ρ (.tmp 0) = .slice (some ⟨g, o, none⟩) pn cap := hout (.tmp 0) rfl
          have yg : y 6 = some true := (hdep ⟨6, .guard⟩ (by simp) rfl).2 11 rfl
          clear hdep hout
          refine .inl ⟨(by show (y 6 == some true) = true; rw [yg]; rfl), (Gives.val ?_ : Gives _ _ _ (.slice (some ⟨g, o, none⟩) pn cap) _)⟩
          go_simp
        rcases i with _ | i
        · obtain rfl := Option.some.inj ho
          have o3 : ρ (.tmp 3) = .pointer (some ⟨x0.heap.size, 0, none⟩) := hout (.tmp 3) rfl
          have yg : y 6 = some true := (hdep ⟨6, .guard⟩ (by simp) rfl).2 11 rfl
          clear hdep hout
          refine .inl ⟨(by show (y 6 == some true) = true; rw [yg]; rfl), (Gives.val ?_ : Gives _ _ _ (.pointer (some ⟨x0.heap.size, 0, none⟩)) _)⟩
          go_simp
        rcases i with _ | i
        · obtain rfl := Option.some.inj ho
          have e10 : ρ (.tmp 15) = .pointer (some ⟨x0.heap.size, 0, none⟩) := (hdep ⟨10, .data⟩ (by simp) rfl).1 15 rfl
          have yg : y 6 = some true := (hdep ⟨6, .guard⟩ (by simp) rfl).2 11 rfl
          clear hdep hout
          have kb := K00.out.later hBx
          have c0 := kb.c 0 _ rfl
          have c1 := kb.c 1 _ rfl
          have c2 := kb.c 2 _ rfl
          have cl0 := kb.lt
          refine .inl ⟨(by show (y 6 == some true) = true; rw [yg]; rfl), (Gives.val ?_ : Gives _ _ _ (.int .i64 k) _)⟩
          go_simp
        rcases i with _ | i
        · obtain rfl := Option.some.inj ho
          have e9 : ρ (.tmp 14) = .slice (some ⟨g, o, none⟩) pn cap := (hdep ⟨9, .data⟩ (by simp) rfl).1 14 rfl
          have e11 : ρ (.tmp 16) = .int .i64 k := (hdep ⟨11, .data⟩ (by simp) rfl).1 16 rfl
          have yg : y 6 = some true := (hdep ⟨6, .guard⟩ (by simp) rfl).2 11 rfl
          clear hdep hout
          refine .inl ⟨(by show (y 6 == some true) = true; rw [yg]; rfl), (Gives.val ?_ : Gives _ _ _ (.pointer (some ⟨g, o + k, none⟩)) _)⟩
          go_simp
        rcases i with _ | i
        · obtain rfl := Option.some.inj ho
          have e12 : ρ (.tmp 17) = .pointer (some ⟨g, o + k, none⟩) := (hdep ⟨12, .data⟩ (by simp) rfl).1 17 rfl
          have yg : y 6 = some true := (hdep ⟨6, .guard⟩ (by simp) rfl).2 11 rfl
          clear hdep hout
          refine .inl ⟨(by show (y 6 == some true) = true; rw [yg]; rfl), (Gives.val ?_ : Gives _ _ _ (.pointer (some ⟨g, o + k, none⟩)) _)⟩
          go_simp
        rcases i with _ | i
        · obtain rfl := Option.some.inj ho
          have e13 : ρ (.tmp 18) = .pointer (some ⟨g, o + k, none⟩) := (hdep ⟨13, .data⟩ (by simp) rfl).1 18 rfl
          have yg : y 6 = some true := (hdep ⟨6, .guard⟩ (by simp) rfl).2 11 rfl
          clear hdep hout
          have hcu := ((HAl.out.trans (hBx.mono HAl.out.size)).cell (p := ⟨g, o + k, none⟩) hg).trans hu
          refine .inl ⟨(by show (y 6 == some true) = true; rw [yg]; rfl), (Gives.val ?_ : Gives _ _ _ (.slice pk cl ck) _)⟩
          go_simp
        rcases i with _ | i
        · obtain rfl := Option.some.inj ho
          have e14 : ρ (.tmp 19) = .slice pk cl ck := (hdep ⟨14, .data⟩ (by simp) rfl).1 19 rfl
          have yg : y 6 = some true := (hdep ⟨6, .guard⟩ (by simp) rfl).2 11 rfl
          clear hdep hout
          refine .inl ⟨(by show (y 6 == some true) = true; rw [yg]; rfl), (Gives.val ?_ : Gives _ _ _ (.int .i64 cl) _)⟩
          go_simp
        rcases i with _ | i
        · obtain rfl := Option.some.inj ho
          have e15 : ρ (.tmp 20) = .int .i64 cl := (hdep ⟨15, .data⟩ (by simp) rfl).1 20 rfl
          have yg : y 6 = some true := (hdep ⟨6, .guard⟩ (by simp) rfl).2 11 rfl
          have ocn : ∀ v, ρ (.const v) = v := fun v => hout (.const v) rfl
          clear hdep hout
          refine .inl ⟨(by show (y 6 == some true) = true; rw [yg]; rfl), (Gives.val ?_ : Gives _ _ _ (.int .i64 ((cl : Int) - 1)) _)⟩
          (go_simp; exact IntWalk.i64_in _ (by omega))
        rcases i with _ | i
        · obtain rfl := Option.some.inj ho
          have e8 : ρ (.tmp 13) = .int .i64 n1 := (hdep ⟨8, .data⟩ (by simp) rfl).1 13 rfl
          have e16 : ρ (.tmp 21) = .int .i64 ((cl : Int) - 1) := (hdep ⟨16, .data⟩ (by simp) rfl).1 21 rfl
          have yg : y 6 = some true := (hdep ⟨6, .guard⟩ (by simp) rfl).2 11 rfl
          have ocn : ∀ v, ρ (.const v) = v := fun v => hout (.const v) rfl
          have ofn : ∀ f, ρ (.func f) = .func (.func f) #[] #[] := fun f => hout (.func f) rfl
          clear hdep hout
          refine .inl ⟨?_, ?_⟩
          · show (y 6 == some true) = true
            rw [yg]; rfl
          show Gives _ _ _ (.bool false) _
          refine Gives.call (l6In_b n1 0 ((cl : Int) - 1) false g2 x) ?_
          go_simp
        rcases i with _ | i
        · obtain rfl := Option.some.inj ho
          have e6 : ρ (.tmp 11) = .bool true := (hdep ⟨6, .data⟩ (by simp) rfl).1 11 rfl
          have e17 : ρ (.tmp 22) = .bool false := (hdep ⟨17, .data⟩ (by simp) rfl).1 22 rfl
          have ocn : ∀ v, ρ (.const v) = v := fun v => hout (.const v) rfl
          clear hdep hout
          refine .inl ⟨rfl, (Gives.val ?_ : Gives _ _ _ (.bool false) _)⟩
          go_simp
        rcases i with _ | i
        · obtain rfl := Option.some.inj ho
          have e18 : ρ (.tmp 23) = .bool false := (hdep ⟨18, .data⟩ (by simp) rfl).1 23 rfl
          clear hdep hout
          refine .inl ⟨rfl, (Gives.val ?_ : Gives _ _ _ (.bool false) _)⟩
          go_simp
        rcases i with _ | i
        · obtain rfl := Option.some.inj ho
          have yg : y 19 = some false := (hdep ⟨19, .guard⟩ (by simp) rfl).2 24 rfl
          exact .inr ⟨by show (y 19 == some true) = false; rw [yg]; rfl, rfl⟩
        rcases i with _ | i
        · obtain rfl := Option.some.inj ho
          have yg : y 19 = some false := (hdep ⟨19, .guard⟩ (by simp) rfl).2 24 rfl
          exact .inr ⟨by show (y 19 == some true) = false; rw [yg]; rfl, rfl⟩
        rcases i with _ | i
        · obtain rfl := Option.some.inj ho
          have yg : y 19 = some false := (hdep ⟨19, .guard⟩ (by simp) rfl).2 24 rfl
          exact .inr ⟨by show (y 19 == some true) = false; rw [yg]; rfl, rfl⟩
        rcases i with _ | i
        · obtain rfl := Option.some.inj ho
          have e19 : ρ (.tmp 24) = .bool false := (hdep ⟨19, .data⟩ (by simp) rfl).1 24 rfl
          have e22 : ρ (.tmp 27) = undef := (hdep ⟨22, .data⟩ (by simp) rfl).1 27 rfl
          have ocn : ∀ v, ρ (.const v) = v := fun v => hout (.const v) rfl
          clear hdep hout
          refine .inl ⟨rfl, (Gives.val ?_ : Gives _ _ _ (.bool false) _)⟩
          go_simp
        rcases i with _ | i
        · obtain rfl := Option.some.inj ho
          have e23 : ρ (.tmp 28) = .bool false := (hdep ⟨23, .data⟩ (by simp) rfl).1 28 rfl
          clear hdep hout
          refine .inl ⟨rfl, (Gives.val ?_ : Gives _ _ _ (.bool false) _)⟩
          go_simp
        rcases i with _ | i
        · obtain rfl := Option.some.inj ho
          have yg : y 24 = some false := (hdep ⟨24, .guard⟩ (by simp) rfl).2 29 rfl
          exact .inr ⟨by show (y 24 == some true) = false; rw [yg]; rfl, rfl⟩
        rcases i with _ | i
        · obtain rfl := Option.some.inj ho
          have yg : y 24 = some false := (hdep ⟨24, .guard⟩ (by simp) rfl).2 29 rfl
          exact .inr ⟨by show (y 24 == some true) = false; rw [yg]; rfl, rfl⟩
        rcases i with _ | i
        · obtain rfl := Option.some.inj ho
          have yg : y 24 = some false := (hdep ⟨24, .guard⟩ (by simp) rfl).2 29 rfl
          exact .inr ⟨by show (y 24 == some true) = false; rw [yg]; rfl, rfl⟩
        rcases i with _ | i
        · obtain rfl := Option.some.inj ho
          have yg : y 24 = some false := (hdep ⟨24, .guard⟩ (by simp) rfl).2 29 rfl
          exact .inr ⟨by show (y 24 == some true) = false; rw [yg]; rfl, rfl⟩
        rcases i with _ | i
        · obtain rfl := Option.some.inj ho
          have yg : y 24 = some false := (hdep ⟨24, .guard⟩ (by simp) rfl).2 29 rfl
          exact .inr ⟨by show (y 24 == some true) = false; rw [yg]; rfl, rfl⟩
        rcases i with _ | i
        · obtain rfl := Option.some.inj ho
          have yg : y 24 = some false := (hdep ⟨24, .guard⟩ (by simp) rfl).2 29 rfl
          exact .inr ⟨by show (y 24 == some true) = false; rw [yg]; rfl, rfl⟩
        rcases i with _ | i
        · obtain rfl := Option.some.inj ho
          have yg : y 24 = some false := (hdep ⟨24, .guard⟩ (by simp) rfl).2 29 rfl
          exact .inr ⟨by show (y 24 == some true) = false; rw [yg]; rfl, rfl⟩
        rcases i with _ | i
        · obtain rfl := Option.some.inj ho
          have yg : y 24 = some false := (hdep ⟨24, .guard⟩ (by simp) rfl).2 29 rfl
          exact .inr ⟨by show (y 24 == some true) = false; rw [yg]; rfl, rfl⟩
        rcases i with _ | i
        · obtain rfl := Option.some.inj ho
          have yg : y 24 = some false := (hdep ⟨24, .guard⟩ (by simp) rfl).2 29 rfl
          exact .inr ⟨by show (y 24 == some true) = false; rw [yg]; rfl, rfl⟩
        rcases i with _ | i
        · obtain rfl := Option.some.inj ho
          have yg : y 24 = some false := (hdep ⟨24, .guard⟩ (by simp) rfl).2 29 rfl
          exact .inr ⟨by show (y 24 == some true) = false; rw [yg]; rfl, rfl⟩
        rcases i with _ | i
        · obtain rfl := Option.some.inj ho
          have yg : y 24 = some false := (hdep ⟨24, .guard⟩ (by simp) rfl).2 29 rfl
          exact .inr ⟨by show (y 24 == some true) = false; rw [yg]; rfl, rfl⟩
        rcases i with _ | i
        · obtain rfl := Option.some.inj ho
          have yg : y 24 = some false := (hdep ⟨24, .guard⟩ (by simp) rfl).2 29 rfl
          exact .inr ⟨by show (y 24 == some true) = false; rw [yg]; rfl, rfl⟩
        rcases i with _ | i
        · obtain rfl := Option.some.inj ho
          have yg : y 24 = some false := (hdep ⟨24, .guard⟩ (by simp) rfl).2 29 rfl
          exact .inr ⟨by show (y 24 == some true) = false; rw [yg]; rfl, rfl⟩
        rcases i with _ | i
        · obtain rfl := Option.some.inj ho
          have yg : y 24 = some false := (hdep ⟨24, .guard⟩ (by simp) rfl).2 29 rfl
          exact .inr ⟨by show (y 24 == some true) = false; rw [yg]; rfl, rfl⟩
        rcases i with _ | i
        · obtain rfl := Option.some.inj ho
          have e24 : ρ (.tmp 29) = .bool false := (hdep ⟨24, .data⟩ (by simp) rfl).1 29 rfl
          have e38 : ρ (.tmp 43) = undef := (hdep ⟨38, .data⟩ (by simp) rfl).1 43 rfl
          have ocn : ∀ v, ρ (.const v) = v := fun v => hout (.const v) rfl
          clear hdep hout
          refine .inl ⟨rfl, (Gives.val ?_ : Gives _ _ _ (.bool false) _)⟩
          go_simp
        rcases i with _ | i
        · obtain rfl := Option.some.inj ho
          have e39 : ρ (.tmp 44) = .bool false := (hdep ⟨39, .data⟩ (by simp) rfl).1 44 rfl
          clear hdep hout
          refine .inl ⟨rfl, (Gives.val ?_ : Gives _ _ _ (.bool false) _)⟩
          go_simp
        cases ho
      case fin =>
        intro x hBx
        have hBf := HAl.out.trans (hBx.mono HAl.out.size)
        go_wp2_with fail
        go_ret
        exact ⟨retBool (by rw [HFr2.out, g2]; rfl), hBf⟩
    · obtain ⟨a, rfl⟩ : ∃ a : Nat, n1 = a := ⟨n1.toNat, by simp only [inI, Bool.and_eq_true, decide_eq_true_eq] at g2; omega⟩
      have ha' : a < (P.getD k []).length := by simp only [inI, Bool.and_eq_true, decide_eq_true_eq] at g2; omega
      have hins := HCO.out.2 a ha'
      have hkk := insOkF_kind hins
      obtain ⟨gi, o2, hp2, hg2, hI⟩ := HC.out.ins ha'
      subst hp2
      have HFr3 : Hid (FF = (!decide (n2 = 0) && decide (faultF ((P.getD k []).getD a i0) = n2))) := by
        show FF = _
        rw [HFr2.out, g2]; simp
      obtain ⟨q0, q1, q2, q3⟩ := hI
      generalize (P.getD k []).getD a i0 = I at *
      have HFO : Hid (∀ z : World, Calls Tryz.prog 74 #[.agg #[.int .i64 I.1, .int .i64 I.2.1, .int .i64 I.2.2.1, .int .i64 I.2.2.2]] z fun e y => e = .returned (.int .i64 (faultF I)) ∧ Below z.heap.size z y) := fun z => l3May_any I hkk.1 hkk.2.1 z
      have hai : (a : Int) < ((P.getD k []).length : Int) := by omega
      clear HCO HC HFr2 hins hkk
      generalize (P.getD k []).length = cl at *
      generalize P.length = pn at *
      by_cases h5 : n2 = 0
      · subst h5
        go_enter Tryz.func50, Tryz.ntmps50
        go_wp2_with fail
        generalize x0.alloc (.cells #[.int .i64 k, .int .i64 a, .int .i64 0] 94) = X at HAl K00 ⊢
        refine wp_region_vals (by kernel_rfl) (by kernel_rfl) (by kernel_rfl) (by kernel_rfl) (fun j => [.pointer (some ⟨x0.heap.size, 0, none⟩), .int .i64 k, .slice (some ⟨g, o, none⟩) pn cap, .int .i64 pn, .int .i64 ((pn : Int) - 1), .bool true, .bool true, .pointer (some ⟨x0.heap.size, 1, none⟩), .int .i64 a, .slice (some ⟨g, o, none⟩) pn cap, .pointer (some ⟨x0.heap.size, 0, none⟩), .int .i64 k, .pointer (some ⟨g, o + k, none⟩), .pointer (some ⟨g, o + k, none⟩), .slice (some ⟨gi, o2, none⟩) cl ck, .int .i64 cl, .int .i64 ((cl : Int) - 1), .bool true, .bool true, .bool true, .pointer (some ⟨x0.heap.size, 2, none⟩), .int .i64 0, .bool false, .bool false, .bool false, undef, undef, undef, undef, undef, undef, undef, undef, undef, undef, undef, undef, undef, undef, .bool false, .bool false].getD j undef) X (Below.drew (Below.refl _ _)) ?step ⟨#[.slice (some ⟨g, o, none⟩) pn cap, .agg #[.int .i64 k, .int .i64 a, .int .i64 0], undef, .pointer (some ⟨x0.heap.size, 0, none⟩), .bool false, .pointer (some ⟨x0.heap.size, 0, none⟩), .int .i64 k, .slice (some ⟨g, o, none⟩) pn cap, .int .i64 pn, .int .i64 ((pn : Int) - 1), .bool true, .bool true, .pointer (some ⟨x0.heap.size, 1, none⟩), .int .i64 a, .slice (some ⟨g, o, none⟩) pn cap, .pointer (some ⟨x0.heap.size, 0, none⟩), .int .i64 k, .pointer (some ⟨g, o + k, none⟩), .pointer (some ⟨g, o + k, none⟩), .slice (some ⟨gi, o2, none⟩) cl ck, .int .i64 cl, .int .i64 ((cl : Int) - 1), .bool true, .bool true, .bool true, .pointer (some ⟨x0.heap.size, 2, none⟩), .int .i64 0, .bool false, .bool false, .bool false, undef, undef, undef, undef, undef, undef, undef, undef, undef, undef, undef, undef, undef, undef, .bool false], []⟩ (by kernel_rfl) ?fin
        case step =>
          intro i o ho ρ y x hBx hdep hout
          rcases i with _ | i
          · obtain rfl := Option.some.inj ho
            have o3 : ρ (.tmp 3) = .pointer (some ⟨x0.heap.size, 0, none⟩) := hout (.tmp 3) rfl
            clear hdep hout
            refine .inl ⟨rfl, (Gives.val ?_ : Gives _ _ _ (.pointer (some ⟨x0.heap.size, 0, none⟩)) _)⟩
            go_simp
          rcases i with _ | i
          · obtain rfl := Option.some.inj ho
            have e0 : ρ (.tmp 5) = .pointer (some ⟨x0.heap.size, 0, none⟩) := (hdep ⟨0, .data⟩ (by simp) rfl).1 5 rfl
            clear hdep hout
            have kb := K00.out.later hBx
            have c0 := kb.c 0 _ rfl
            have c1 := kb.c 1 _ rfl
            have c2 := kb.c 2 _ rfl
            have cl0 := kb.lt
            refine .inl ⟨rfl, (Gives.val ?_ : Gives _ _ _ (.int .i64 k) _)⟩
            go_simp
          rcases i with _ | i
          · obtain rfl := Option.some.inj ho
            have o0 : ρ (.tmp 0) = .slice (some ⟨g, o, none⟩) pn cap := hout (.tmp 0) rfl
            clear hdep hout
            refine .inl ⟨rfl, (Gives.val ?_ : Gives _ _ _ (.slice (some ⟨g, o, none⟩) pn cap) _)⟩
            go_simp
          rcases i with _ | i
          · obtain rfl := Option.some.inj ho
            have e2 : ρ (.tmp 7) = .slice (some ⟨g, o, none⟩) pn cap := (hdep ⟨2, .data⟩ (by simp) rfl).1 7 rfl
            clear hdep hout
            refine .inl ⟨rfl, (Gives.val ?_ : Gives _ _ _ (.int .i64 pn) _)⟩
            go_simp
          rcases i with _ | i
          · obtain rfl := Option.some.inj ho
            have e3 : ρ (.tmp 8) = .int .i64 pn := (hdep ⟨3, .data⟩ (by simp) rfl).1 8 rfl
            have ocn : ∀ v, ρ (.const v) = v := fun v => hout (.const v) rfl
            clear hdep hout
            refine .inl ⟨rfl, (Gives.val ?_ : Gives _ _ _ (.int .i64 ((pn : Int) - 1)) _)⟩
            (go_simp; exact IntWalk.i64_in _ (by omega))
          rcases i with _ | i
          · obtain rfl := Option.some.inj ho
            have e1 : ρ (.tmp 6) = .int .i64 k := (hdep ⟨1, .data⟩ (by simp) rfl).1 6 rfl
            have e4 : ρ (.tmp 9) = .int .i64 ((pn : Int) - 1) := (hdep ⟨4, .data⟩ (by simp) rfl).1 9 rfl
            have ocn : ∀ v, ρ (.const v) = v := fun v => hout (.const v) rfl
            have ofn : ∀ f, ρ (.func f) = .func (.func f) #[] #[] := fun f => hout (.func f) rfl
            clear hdep hout
            refine .inl ⟨?_, ?_⟩
            · rfl
            show Gives _ _ _ (.bool true) _
            refine Gives.call (l6In_b k 0 ((pn : Int) - 1) true g1 x) ?_
            go_simp
          rcases i with _ | i
          · obtain rfl := Option.some.inj ho
            have e5 : ρ (.tmp 10) = .bool true := (hdep ⟨5, .data⟩ (by simp) rfl).1 10 rfl
            clear hdep hout
            refine .inl ⟨rfl, (Gives.val ?_ : Gives _ _ _ (.bool true) _)⟩
            go_simp
          rcases i with _ | i
          · obtain rfl := Option.some.inj ho
            have o3 : ρ (.tmp 3) = .pointer (some ⟨x0.heap.size, 0, none⟩) := hout (.tmp 3) rfl
            have yg : y 6 = some true := (hdep ⟨6, .guard⟩ (by simp) rfl).2 11 rfl
            clear hdep hout
            refine .inl ⟨(by show (y 6 == some true) = true; rw [yg]; rfl), (Gives.val ?_ : Gives _ _ _ (.pointer (some ⟨x0.heap.size, 1, none⟩)) _)⟩
            go_simp
          rcases i with _ | i
          · obtain rfl := Option.some.inj ho
            have e7 : ρ (.tmp 12) = .pointer (some ⟨x0.heap.size, 1, none⟩) := (hdep ⟨7, .data⟩ (by simp) rfl).1 12 rfl
            have yg : y 6 = some true := (hdep ⟨6, .guard⟩ (by simp) rfl).2 11 rfl
            clear hdep hout
            have kb := K00.out.later hBx
            have c0 := kb.c 0 _ rfl
            have c1 := kb.c 1 _ rfl
            have c2 := kb.c 2 _ rfl
            have cl0 := kb.lt
            refine .inl ⟨(by show (y 6 == some true) = true; rw [yg]; rfl), (Gives.val ?_ : Gives _ _ _ (.int .i64 a) _)⟩
            go_simp
          rcases i with _ | i
          · obtain rfl := Option.some.inj ho
            have o0 : ρ (.tmp 0) = .slice (some ⟨g, o, none⟩) pn cap := hout (.tmp 0) rfl
            have yg : y 6 = some true := (hdep ⟨6, .guard⟩ (by simp) rfl).2 11 rfl
            clear hdep hout
            refine .inl ⟨(by show (y 6 == some true) = true; rw [yg]; rfl), (Gives.val ?_ : Gives _ _ _ (.slice (some ⟨g, o, none⟩) pn cap) _)⟩
            go_simp
          rcases i with _ | i
          · obtain rfl := Option.some.inj ho
            have o3 : ρ (.tmp 3) = .pointer (some ⟨x0.heap.size, 0, none⟩) := hout (.tmp 3) rfl
            have yg : y 6 = some true := (hdep ⟨6, .guard⟩ (by simp) rfl).2 11 rfl
            clear hdep hout
            refine .inl ⟨(by show (y 6 == some true) = true; rw [yg]; rfl), (Gives.val ?_ : Gives _ _ _ (.pointer (some ⟨x0.heap.size, 0, none⟩)) _)⟩
            go_simp
          rcases i with _ | i
          · obtain rfl := Option.some.inj ho
            have e10 : ρ (.tmp 15) = .pointer (some ⟨x0.heap.size, 0, none⟩) := (hdep ⟨10, .data⟩ (by simp) rfl).1 15 rfl
            have yg : y 6 = some true := (hdep ⟨6, .guard⟩ (by simp) rfl).2 11 rfl
            clear hdep hout
            have kb := K00.out.later hBx
            have c0 := kb.c 0 _ rfl
            have c1 := kb.c 1 _ rfl
            have c2 := kb.c 2 _ rfl
            have cl0 := kb.lt
            refine .inl ⟨(by show (y 6 == some true) = true; rw [yg]; rfl), (Gives.val ?_ : Gives _ _ _ (.int .i64 k) _)⟩
            go_simp
          rcases i with _ | i
          · obtain rfl := Option.some.inj ho
            have e9 : ρ (.tmp 14) = .slice (some ⟨g, o, none⟩) pn cap := (hdep ⟨9, .data⟩ (by simp) rfl).1 14 rfl
            have e11 : ρ (.tmp 16) = .int .i64 k := (hdep ⟨11, .data⟩ (by simp) rfl).1 16 rfl
            have yg : y 6 = some true := (hdep ⟨6, .guard⟩ (by simp) rfl).2 11 rfl
            clear hdep hout
            refine .inl ⟨(by show (y 6 == some true) = true; rw [yg]; rfl), (Gives.val ?_ : Gives _ _ _ (.pointer (some ⟨g, o + k, none⟩)) _)⟩
            go_simp
          rcases i with _ | i
          · obtain rfl := Option.some.inj ho
            have e12 : ρ (.tmp 17) = .pointer (some ⟨g, o + k, none⟩) := (hdep ⟨12, .data⟩ (by simp) rfl).1 17 rfl
            have yg : y 6 = some true := (hdep ⟨6, .guard⟩ (by simp) rfl).2 11 rfl
            clear hdep hout
            refine .inl ⟨(by show (y 6 == some true) = true; rw [yg]; rfl), (Gives.val ?_ : Gives _ _ _ (.pointer (some ⟨g, o + k, none⟩)) _)⟩
            go_simp
          rcases i with _ | i
          · obtain rfl := Option.some.inj ho
            have e13 : ρ (.tmp 18) = .pointer (some ⟨g, o + k, none⟩) := (hdep ⟨13, .data⟩ (by simp) rfl).1 18 rfl
            have yg : y 6 = some true := (hdep ⟨6, .guard⟩ (by simp) rfl).2 11 rfl
            clear hdep hout
            have hcu := ((HAl.out.trans (hBx.mono HAl.out.size)).cell (p := ⟨g, o + k, none⟩) hg).trans hu
            refine .inl ⟨(by show (y 6 == some true) = true; rw [yg]; rfl), (Gives.val ?_ : Gives _ _ _ (.slice (some ⟨gi, o2, none⟩) cl ck) _)⟩
            go_simp
          rcases i with _ | i
          · obtain rfl := Option.some.inj ho
            have e14 : ρ (.tmp 19) = .slice (some ⟨gi, o2, none⟩) cl ck := (hdep ⟨14, .data⟩ (by simp) rfl).1 19 rfl
            have yg : y 6 = some true := (hdep ⟨6, .guard⟩ (by simp) rfl).2 11 rfl
            clear hdep hout
            refine .inl ⟨(by show (y 6 == some true) = true; rw [yg]; rfl), (Gives.val ?_ : Gives _ _ _ (.int .i64 cl) _)⟩
            go_simp
          rcases i with _ | i
          · obtain rfl := Option.some.inj ho
            have e15 : ρ (.tmp 20) = .int .i64 cl := (hdep ⟨15, .data⟩ (by simp) rfl).1 20 rfl
            have yg : y 6 = some true := (hdep ⟨6, .guard⟩ (by simp) rfl).2 11 rfl
            have ocn : ∀ v, ρ (.const v) = v := fun v => hout (.const v) rfl
            clear hdep hout
            refine .inl ⟨(by show (y 6 == some true) = true; rw [yg]; rfl), (Gives.val ?_ : Gives _ _ _ (.int .i64 ((cl : Int) - 1)) _)⟩
            (go_simp; exact IntWalk.i64_in _ (by omega))
          rcases i with _ | i
          · obtain rfl := Option.some.inj ho
            have e8 : ρ (.tmp 13) = .int .i64 a := (hdep ⟨8, .data⟩ (by simp) rfl).1 13 rfl
            have e16 : ρ (.tmp 21) = .int .i64 ((cl : Int) - 1) := (hdep ⟨16, .data⟩ (by simp) rfl).1 21 rfl
            have yg : y 6 = some true := (hdep ⟨6, .guard⟩ (by simp) rfl).2 11 rfl
            have ocn : ∀ v, ρ (.const v) = v := fun v => hout (.const v) rfl
            have ofn : ∀ f, ρ (.func f) = .func (.func f) #[] #[] := fun f => hout (.func f) rfl
            clear hdep hout
            refine .inl ⟨?_, ?_⟩
            · show (y 6 == some true) = true
              rw [yg]; rfl
            show Gives _ _ _ (.bool true) _
            refine Gives.call (l6In_b a 0 ((cl : Int) - 1) true g2 x) ?_
            go_simp
          rcases i with _ | i
          · obtain rfl := Option.some.inj ho
            have e6 : ρ (.tmp 11) = .bool true := (hdep ⟨6, .data⟩ (by simp) rfl).1 11 rfl
            have e17 : ρ (.tmp 22) = .bool true := (hdep ⟨17, .data⟩ (by simp) rfl).1 22 rfl
            have ocn : ∀ v, ρ (.const v) = v := fun v => hout (.const v) rfl
            clear hdep hout
            refine .inl ⟨rfl, (Gives.val ?_ : Gives _ _ _ (.bool true) _)⟩
            go_simp
          rcases i with _ | i
          · obtain rfl := Option.some.inj ho
            have e18 : ρ (.tmp 23) = .bool true := (hdep ⟨18, .data⟩ (by simp) rfl).1 23 rfl
            clear hdep hout
            refine .inl ⟨rfl, (Gives.val ?_ : Gives _ _ _ (.bool true) _)⟩
            go_simp
          rcases i with _ | i
          · obtain rfl := Option.some.inj ho
            have o3 : ρ (.tmp 3) = .pointer (some ⟨x0.heap.size, 0, none⟩) := hout (.tmp 3) rfl
            have yg : y 19 = some true := (hdep ⟨19, .guard⟩ (by simp) rfl).2 24 rfl
            clear hdep hout
            refine .inl ⟨(by show (y 19 == some true) = true; rw [yg]; rfl), (Gives.val ?_ : Gives _ _ _ (.pointer (some ⟨x0.heap.size, 2, none⟩)) _)⟩
            go_simp
          rcases i with _ | i
          · obtain rfl := Option.some.inj ho
            have e20 : ρ (.tmp 25) = .pointer (some ⟨x0.heap.size, 2, none⟩) := (hdep ⟨20, .data⟩ (by simp) rfl).1 25 rfl
            have yg : y 19 = some true := (hdep ⟨19, .guard⟩ (by simp) rfl).2 24 rfl
            clear hdep hout
            have kb := K00.out.later hBx
            have c0 := kb.c 0 _ rfl
            have c1 := kb.c 1 _ rfl
            have c2 := kb.c 2 _ rfl
            have cl0 := kb.lt
            refine .inl ⟨(by show (y 19 == some true) = true; rw [yg]; rfl), (Gives.val ?_ : Gives _ _ _ (.int .i64 0) _)⟩
            go_simp
          rcases i with _ | i
          · obtain rfl := Option.some.inj ho
            have e21 : ρ (.tmp 26) = .int .i64 0 := (hdep ⟨21, .data⟩ (by simp) rfl).1 26 rfl
            have yg : y 19 = some true := (hdep ⟨19, .guard⟩ (by simp) rfl).2 24 rfl
            have ocn : ∀ v, ρ (.const v) = v := fun v => hout (.const v) rfl
            clear hdep hout
            refine .inl ⟨(by show (y 19 == some true) = true; rw [yg]; rfl), (Gives.val ?_ : Gives _ _ _ (.bool false) _)⟩
            go_simp
          rcases i with _ | i
          · obtain rfl := Option.some.inj ho
            have e19 : ρ (.tmp 24) = .bool true := (hdep ⟨19, .data⟩ (by simp) rfl).1 24 rfl
            have e22 : ρ (.tmp 27) = .bool false := (hdep ⟨22, .data⟩ (by simp) rfl).1 27 rfl
            have ocn : ∀ v, ρ (.const v) = v := fun v => hout (.const v) rfl
            clear hdep hout
            refine .inl ⟨rfl, (Gives.val ?_ : Gives _ _ _ (.bool false) _)⟩
            go_simp
          rcases i with _ | i
          · obtain rfl := Option.some.inj ho
            have e23 : ρ (.tmp 28) = .bool false := (hdep ⟨23, .data⟩ (by simp) rfl).1 28 rfl
            clear hdep hout
            refine .inl ⟨rfl, (Gives.val ?_ : Gives _ _ _ (.bool false) _)⟩
            go_simp
          rcases i with _ | i
          · obtain rfl := Option.some.inj ho
            have yg : y 24 = some false := (hdep ⟨24, .guard⟩ (by simp) rfl).2 29 rfl
            exact .inr ⟨by show (y 24 == some true) = false; rw [yg]; rfl, rfl⟩
          rcases i with _ | i
          · obtain rfl := Option.some.inj ho
            have yg : y 24 = some false := (hdep ⟨24, .guard⟩ (by simp) rfl).2 29 rfl
            exact .inr ⟨by show (y 24 == some true) = false; rw [yg]; rfl, rfl⟩
          rcases i with _ | i
          · obtain rfl := Option.some.inj ho
            have yg : y 24 = some false := (hdep ⟨24, .guard⟩ (by simp) rfl).2 29 rfl
            exact .inr ⟨by show (y 24 == some true) = false; rw [yg]; rfl, rfl⟩
          rcases i with _ | i
          · obtain rfl := Option.some.inj ho
            have yg : y 24 = some false := (hdep ⟨24, .guard⟩ (by simp) rfl).2 29 rfl
            exact .inr ⟨by show (y 24 == some true) = false; rw [yg]; rfl, rfl⟩
          rcases i with _ | i
          · obtain rfl := Option.some.inj ho
            have yg : y 24 = some false := (hdep ⟨24, .guard⟩ (by simp) rfl).2 29 rfl
            exact .inr ⟨by show (y 24 == some true) = false; rw [yg]; rfl, rfl⟩
          rcases i with _ | i
          · obtain rfl := Option.some.inj ho
            have yg : y 24 = some false := (hdep ⟨24, .guard⟩ (by simp) rfl).2 29 rfl
            exact .inr ⟨by show (y 24 == some true) = false; rw [yg]; rfl, rfl⟩
          rcases i with _ | i
          · obtain rfl := Option.some.inj ho
            have yg : y 24 = some false := (hdep ⟨24, .guard⟩ (by simp) rfl).2 29 rfl
            exact .inr ⟨by show (y 24 == some true) = false; rw [yg]; rfl, rfl⟩
          rcases i with _ | i
          · obtain rfl := Option.some.inj ho
            have yg : y 24 = some false := (hdep ⟨24, .guard⟩ (by simp) rfl).2 29 rfl
            exact .inr ⟨by show (y 24 == some true) = false; rw [yg]; rfl, rfl⟩
          rcases i with _ | i
          · obtain rfl := Option.some.inj ho
            have yg : y 24 = some false := (hdep ⟨24, .guard⟩ (by simp) rfl).2 29 rfl
            exact .inr ⟨by show (y 24 == some true) = false; rw [yg]; rfl, rfl⟩
          rcases i with _ | i
          · obtain rfl := Option.some.inj ho
            have yg : y 24 = some false := (hdep ⟨24, .guard⟩ (by simp) rfl).2 29 rfl
            exact .inr ⟨by show (y 24 == some true) = false; rw [yg]; rfl, rfl⟩
          rcases i with _ | i
          · obtain rfl := Option.some.inj ho
            have yg : y 24 = some false := (hdep ⟨24, .guard⟩ (by simp) rfl).2 29 rfl
            exact .inr ⟨by show (y 24 == some true) = false; rw [yg]; rfl, rfl⟩
          rcases i with _ | i
          · obtain rfl := Option.some.inj ho
            have yg : y 24 = some false := (hdep ⟨24, .guard⟩ (by simp) rfl).2 29 rfl
            exact .inr ⟨by show (y 24 == some true) = false; rw [yg]; rfl, rfl⟩
          rcases i with _ | i
          · obtain rfl := Option.some.inj ho
            have yg : y 24 = some false := (hdep ⟨24, .guard⟩ (by simp) rfl).2 29 rfl
            exact .inr ⟨by show (y 24 == some true) = false; rw [yg]; rfl, rfl⟩
          rcases i with _ | i
          · obtain rfl := Option.some.inj ho
            have yg : y 24 = some false := (hdep ⟨24, .guard⟩ (by simp) rfl).2 29 rfl
            exact .inr ⟨by show (y 24 == some true) = false; rw [yg]; rfl, rfl⟩
          rcases i with _ | i
          · obtain rfl := Option.some.inj ho
            have e24 : ρ (.tmp 29) = .bool false := (hdep ⟨24, .data⟩ (by simp) rfl).1 29 rfl
            have e38 : ρ (.tmp 43) = undef := (hdep ⟨38, .data⟩ (by simp) rfl).1 43 rfl
            have ocn : ∀ v, ρ (.const v) = v := fun v => hout (.const v) rfl
            clear hdep hout
            refine .inl ⟨rfl, (Gives.val ?_ : Gives _ _ _ (.bool false) _)⟩
            go_simp
          rcases i with _ | i
          · obtain rfl := Option.some.inj ho
            have e39 : ρ (.tmp 44) = .bool false := (hdep ⟨39, .data⟩ (by simp) rfl).1 44 rfl
            clear hdep hout
            refine .inl ⟨rfl, (Gives.val ?_ : Gives _ _ _ (.bool false) _)⟩
            go_simp
          cases ho
        case fin =>
          intro x hBx
          have hBf := HAl.out.trans (hBx.mono HAl.out.size)
          go_wp2_with fail
          go_ret
          exact ⟨retBool (by rw [HFr3.out]; simp), hBf⟩
      · have h5n : (n2 != 0) = true := by simp [h5]
        go_enter Tryz.func50, Tryz.ntmps50
        go_wp2_with fail
        generalize x0.alloc (.cells #[.int .i64 k, .int .i64 a, .int .i64 n2] 94) = X at HAl K00 ⊢
        refine wp_region_vals (by kernel_rfl) (by kernel_rfl) (by kernel_rfl) (by kernel_rfl) (fun j => [.pointer (some ⟨x0.heap.size, 0, none⟩), .int .i64 k, .slice (some ⟨g, o, none⟩) pn cap, .int .i64 pn, .int .i64 ((pn : Int) - 1), .bool true, .bool true, .pointer (some ⟨x0.heap.size, 1, none⟩), .int .i64 a, .slice (some ⟨g, o, none⟩) pn cap, .pointer (some ⟨x0.heap.size, 0, none⟩), .int .i64 k, .pointer (some ⟨g, o + k, none⟩), .pointer (some ⟨g, o + k, none⟩), .slice (some ⟨gi, o2, none⟩) cl ck, .int .i64 cl, .int .i64 ((cl : Int) - 1), .bool true, .bool true, .bool true, .pointer (some ⟨x0.heap.size, 2, none⟩), .int .i64 n2, .bool true, .bool true, .bool true, .slice (some ⟨g, o, none⟩) pn cap, .pointer (some ⟨x0.heap.size, 0, none⟩), .int .i64 k, .pointer (some ⟨g, o + k, none⟩), .pointer (some ⟨g, o + k, none⟩), .slice (some ⟨gi, o2, none⟩) cl ck, .pointer (some ⟨x0.heap.size, 1, none⟩), .int .i64 a, .pointer (some ⟨gi, o2 + a * 4, none⟩), .agg #[.int .i64 I.1, .int .i64 I.2.1, .int .i64 I.2.2.1, .int .i64 I.2.2.2], .int .i64 (faultF I), .pointer (some ⟨x0.heap.size, 2, none⟩), .int .i64 n2, .bool (faultF I == n2), .bool (faultF I == n2), .bool (faultF I == n2)].getD j undef) X (Below.drew (Below.refl _ _)) ?step ⟨#[.slice (some ⟨g, o, none⟩) pn cap, .agg #[.int .i64 k, .int .i64 a, .int .i64 n2], undef, .pointer (some ⟨x0.heap.size, 0, none⟩), .bool (faultF I == n2), .pointer (some ⟨x0.heap.size, 0, none⟩), .int .i64 k, .slice (some ⟨g, o, none⟩) pn cap, .int .i64 pn, .int .i64 ((pn : Int) - 1), .bool true, .bool true, .pointer (some ⟨x0.heap.size, 1, none⟩), .int .i64 a, .slice (some ⟨g, o, none⟩) pn cap, .pointer (some ⟨x0.heap.size, 0, none⟩), .int .i64 k, .pointer (some ⟨g, o + k, none⟩), .pointer (some ⟨g, o + k, none⟩), .slice (some ⟨gi, o2, none⟩) cl ck, .int .i64 cl, .int .i64 ((cl : Int) - 1), .bool true, .bool true, .bool true, .pointer (some ⟨x0.heap.size, 2, none⟩), .int .i64 n2, .bool true, .bool true, .bool true, .slice (some ⟨g, o, none⟩) pn cap, .pointer (some ⟨x0.heap.size, 0, none⟩), .int .i64 k, .pointer (some ⟨g, o + k, none⟩), .pointer (some ⟨g, o + k, none⟩), .slice (some ⟨gi, o2, none⟩) cl ck, .pointer (some ⟨x0.heap.size, 1, none⟩), .int .i64 a, .pointer (some ⟨gi, o2 + a * 4, none⟩), .agg #[.int .i64 I.1, .int .i64 I.2.1, .int .i64 I.2.2.1, .int .i64 I.2.2.2], .int .i64 (faultF I), .pointer (some ⟨x0.heap.size, 2, none⟩), .int .i64 n2, .bool (faultF I == n2), .bool (faultF I == n2)], []⟩ (by kernel_rfl) ?fin
        case step =>
          intro i o ho ρ y x hBx hdep hout
          rcases i with _ | i
          · obtain rfl := Option.some.inj ho
            have o3 : ρ (.tmp 3) = .pointer (some ⟨x0.heap.size, 0, none⟩) := hout (.tmp 3) rfl
            clear hdep hout
            refine .inl ⟨rfl, (Gives.val ?_ : Gives _ _ _ (.pointer (some ⟨x0.heap.size, 0, none⟩)) _)⟩
            go_simp
          rcases i with _ | i
          · obtain rfl := Option.some.inj ho
            have e0 : ρ (.tmp 5) = .pointer (some ⟨x0.heap.size, 0, none⟩) := (hdep ⟨0, .data⟩ (by simp) rfl).1 5 rfl
            clear hdep hout
            have kb := K00.out.later hBx
            have c0 := kb.c 0 _ rfl
            have c1 := kb.c 1 _ rfl
            have c2 := kb.c 2 _ rfl
            have cl0 := kb.lt
            refine .inl ⟨rfl, (Gives.val ?_ : Gives _ _ _ (.int .i64 k) _)⟩
            go_simp
          rcases i with _ | i
          · obtain rfl := Option.some.inj ho
            have o0 : ρ (.tmp 0) = .slice (some ⟨g, o, none⟩) pn cap := hout (.tmp 0) rfl
            clear hdep hout
            refine .inl ⟨rfl, (Gives.val ?_ : Gives _ _ _ (.slice (some ⟨g, o, none⟩) pn cap) _)⟩
            go_simp
          rcases i with _ | i
          · obtain rfl := Option.some.inj ho
            have e2 : ρ (.tmp 7) = .slice (some ⟨g, o, none⟩) pn cap := (hdep ⟨2, .data⟩ (by simp) rfl).1 7 rfl
            clear hdep hout
            refine .inl ⟨rfl, (Gives.val ?_ : Gives _ _ _ (.int .i64 pn) _)⟩
            go_simp
          rcases i with _ | i
          · obtain rfl := Option.some.inj ho
            have e3 : ρ (.tmp 8) = .int .i64 pn := (hdep ⟨3, .data⟩ (by simp) rfl).1 8 rfl
            have ocn : ∀ v, ρ (.const v) = v := fun v => hout (.const v) rfl
            clear hdep hout
            refine .inl ⟨rfl, (Gives.val ?_ : Gives _ _ _ (.int .i64 ((pn : Int) - 1)) _)⟩
            (go_simp; exact IntWalk.i64_in _ (by omega))
          rcases i with _ | i
          · obtain rfl := Option.some.inj ho
            have e1 : ρ (.tmp 6) = .int .i64 k := (hdep ⟨1, .data⟩ (by simp) rfl).1 6 rfl
            have e4 : ρ (.tmp 9) = .int .i64 ((pn : Int) - 1) := (hdep ⟨4, .data⟩ (by simp) rfl).1 9 rfl
            have ocn : ∀ v, ρ (.const v) = v := fun v => hout (.const v) rfl
            have ofn : ∀ f, ρ (.func f) = .func (.func f) #[] #[] := fun f => hout (.func f) rfl
            clear hdep hout
            refine .inl ⟨?_, ?_⟩
            · rfl
            show Gives _ _ _ (.bool true) _
            refine Gives.call (l6In_b k 0 ((pn : Int) - 1) true g1 x) ?_
            go_simp
          rcases i with _ | i
          · obtain rfl := Option.some.inj ho
            have e5 : ρ (.tmp 10) = .bool true := (hdep ⟨5, .data⟩ (by simp) rfl).1 10 rfl
            clear hdep hout
            refine .inl ⟨rfl, (Gives.val ?_ : Gives _ _ _ (.bool true) _)⟩
            go_simp
          rcases i with _ | i
          · obtain rfl := Option.some.inj ho
            have o3 : ρ (.tmp 3) = .pointer (some ⟨x0.heap.size, 0, none⟩) := hout (.tmp 3) rfl
            have yg : y 6 = some true := (hdep ⟨6, .guard⟩ (by simp) rfl).2 11 rfl
            clear hdep hout
            refine .inl ⟨(by show (y 6 == some true) = true; rw [yg]; rfl), (Gives.val ?_ : Gives _ _ _ (.pointer (some ⟨x0.heap.size, 1, none⟩)) _)⟩
            go_simp
          rcases i with _ | i
          · obtain rfl := Option.some.inj ho
            have e7 : ρ (.tmp 12) = .pointer (some ⟨x0.heap.size, 1, none⟩) := (hdep ⟨7, .data⟩ (by simp) rfl).1 12 rfl
            have yg : y 6 = some true := (hdep ⟨6, .guard⟩ (by simp) rfl).2 11 rfl
            clear hdep hout
            have kb := K00.out.later hBx
            have c0 := kb.c 0 _ rfl
            have c1 := kb.c 1 _ rfl
            have c2 := kb.c 2 _ rfl
            have cl0 := kb.lt
            refine .inl ⟨(by show (y 6 == some true) = true; rw [yg]; rfl), (Gives.val ?_ : Gives _ _ _ (.int .i64 a) _)⟩
            go_simp
          rcases i with _ | i
          · obtain rfl := Option.some.inj ho
            have o0 : ρ (.tmp 0) = .slice (some ⟨g, o, none⟩) pn cap := hout (.tmp 0) rfl
            have yg : y 6 = some true := (hdep ⟨6, .guard⟩ (by simp) rfl).2 11 rfl
            clear hdep hout
            refine .inl ⟨(by show (y 6 == some true) = true; rw [yg]; rfl), (Gives.val ?_ : Gives _ _ _ (.slice (some ⟨g, o, none⟩) pn cap) _)⟩
            go_simp
          rcases i with _ | i
          · obtain rfl := Option.some.inj ho
            have o3 : ρ (.tmp 3) = .pointer (some ⟨x0.heap.size, 0, none⟩) := hout (.tmp 3) rfl
            have yg : y 6 = some true := (hdep ⟨6, .guard⟩ (by simp) rfl).2 11 rfl
            clear hdep hout
            refine .inl ⟨(by show (y 6 == some true) = true; rw [yg]; rfl), (Gives.val ?_ : Gives _ _ _ (.pointer (some ⟨x0.heap.size, 0, none⟩)) _)⟩
            go_simp
          rcases i with _ | i
          · obtain rfl := Option.some.inj ho
            have e10 : ρ (.tmp 15) = .pointer (some ⟨x0.heap.size, 0, none⟩) := (hdep ⟨10, .data⟩ (by simp) rfl).1 15 rfl
            have yg : y 6 = some true := (hdep ⟨6, .guard⟩ (by simp) rfl).2 11 rfl
            clear hdep hout
            have kb := K00.out.later hBx
            have c0 := kb.c 0 _ rfl
            have c1 := kb.c 1 _ rfl
            have c2 := kb.c 2 _ rfl
            have cl0 := kb.lt
            refine .inl ⟨(by show (y 6 == some true) = true; rw [yg]; rfl), (Gives.val ?_ : Gives _ _ _ (.int .i64 k) _)⟩
            go_simp
          rcases i with _ | i
          · obtain rfl := Option.some.inj ho
            have e9 : ρ (.tmp 14) = .slice (some ⟨g, o, none⟩) pn cap := (hdep ⟨9, .data⟩ (by simp) rfl).1 14 rfl
            have e11 : ρ (.tmp 16) = .int .i64 k := (hdep ⟨11, .data⟩ (by simp) rfl).1 16 rfl
            have yg : y 6 = some true := (hdep ⟨6, .guard⟩ (by simp) rfl).2 11 rfl
            clear hdep hout
            refine .inl ⟨(by show (y 6 == some true) = true; rw [yg]; rfl), (Gives.val ?_ : Gives _ _ _ (.pointer (some ⟨g, o + k, none⟩)) _)⟩
            go_simp
          rcases i with _ | i
          · obtain rfl := Option.some.inj ho
            have e12 : ρ (.tmp 17) = .pointer (some ⟨g, o + k, none⟩) := (hdep ⟨12, .data⟩ (by simp) rfl).1 17 rfl
            have yg : y 6 = some true := (hdep ⟨6, .guard⟩ (by simp) rfl).2 11 rfl
            clear hdep hout
            refine .inl ⟨(by show (y 6 == some true) = true; rw [yg]; rfl), (Gives.val ?_ : Gives _ _ _ (.pointer (some ⟨g, o + k, none⟩)) _)⟩
            go_simp
          rcases i with _ | i
          · obtain rfl := Option.some.inj ho
            have e13 : ρ (.tmp 18) = .pointer (some ⟨g, o + k, none⟩) := (hdep ⟨13, .data⟩ (by simp) rfl).1 18 rfl
            have yg : y 6 = some true := (hdep ⟨6, .guard⟩ (by simp) rfl).2 11 rfl
            clear hdep hout
            have hcu := ((HAl.out.trans (hBx.mono HAl.out.size)).cell (p := ⟨g, o + k, none⟩) hg).trans hu
            refine .inl ⟨(by show (y 6 == some true) = true; rw [yg]; rfl), (Gives.val ?_ : Gives _ _ _ (.slice (some ⟨gi, o2, none⟩) cl ck) _)⟩
            go_simp
          rcases i with _ | i
          · obtain rfl := Option.some.inj ho
            have e14 : ρ (.tmp 19) = .slice (some ⟨gi, o2, none⟩) cl ck := (hdep ⟨14, .data⟩ (by simp) rfl).1 19 rfl
            have yg : y 6 = some true := (hdep ⟨6, .guard⟩ (by simp) rfl).2 11 rfl
            clear hdep hout
            refine .inl ⟨(by show (y 6 == some true) = true; rw [yg]; rfl), (Gives.val ?_ : Gives _ _ _ (.int .i64 cl) _)⟩
            go_simp
          rcases i with _ | i
          · obtain rfl := Option.some.inj ho
            have e15 : ρ (.tmp 20) = .int .i64 cl := (hdep ⟨15, .data⟩ (by simp) rfl).1 20 rfl
            have yg : y 6 = some true := (hdep ⟨6, .guard⟩ (by simp) rfl).2 11 rfl
            have ocn : ∀ v, ρ (.const v) = v := fun v => hout (.const v) rfl
            clear hdep hout
            refine .inl ⟨(by show (y 6 == some true) = true; rw [yg]; rfl), (Gives.val ?_ : Gives _ _ _ (.int .i64 ((cl : Int) - 1)) _)⟩
            (go_simp; exact IntWalk.i64_in _ (by omega))
          rcases i with _ | i
          · obtain rfl := Option.some.inj ho
            have e8 : ρ (.tmp 13) = .int .i64 a := (hdep ⟨8, .data⟩ (by simp) rfl).1 13 rfl
            have e16 : ρ (.tmp 21) = .int .i64 ((cl : Int) - 1) := (hdep ⟨16, .data⟩ (by simp) rfl).1 21 rfl
            have yg : y 6 = some true := (hdep ⟨6, .guard⟩ (by simp) rfl).2 11 rfl
            have ocn : ∀ v, ρ (.const v) = v := fun v => hout (.const v) rfl
            have ofn : ∀ f, ρ (.func f) = .func (.func f) #[] #[] := fun f => hout (.func f) rfl
            clear hdep hout
            refine .inl ⟨?_, ?_⟩
            · show (y 6 == some true) = true
              rw [yg]; rfl
            show Gives _ _ _ (.bool true) _
            refine Gives.call (l6In_b a 0 ((cl : Int) - 1) true g2 x) ?_
            go_simp
          rcases i with _ | i
          · obtain rfl := Option.some.inj ho
            have e6 : ρ (.tmp 11) = .bool true := (hdep ⟨6, .data⟩ (by simp) rfl).1 11 rfl
            have e17 : ρ (.tmp 22) = .bool true := (hdep ⟨17, .data⟩ (by simp) rfl).1 22 rfl
            have ocn : ∀ v, ρ (.const v) = v := fun v => hout (.const v) rfl
            clear hdep hout
            refine .inl ⟨rfl, (Gives.val ?_ : Gives _ _ _ (.bool true) _)⟩
            go_simp
          rcases i with _ | i
          · obtain rfl := Option.some.inj ho
            have e18 : ρ (.tmp 23) = .bool true := (hdep ⟨18, .data⟩ (by simp) rfl).1 23 rfl
            clear hdep hout
            refine .inl ⟨rfl, (Gives.val ?_ : Gives _ _ _ (.bool true) _)⟩
            go_simp
          rcases i with _ | i
          · obtain rfl := Option.some.inj ho
            have o3 : ρ (.tmp 3) = .pointer (some ⟨x0.heap.size, 0, none⟩) := hout (.tmp 3) rfl
            have yg : y 19 = some true := (hdep ⟨19, .guard⟩ (by simp) rfl).2 24 rfl
            clear hdep hout
            refine .inl ⟨(by show (y 19 == some true) = true; rw [yg]; rfl), (Gives.val ?_ : Gives _ _ _ (.pointer (some ⟨x0.heap.size, 2, none⟩)) _)⟩
            go_simp
          rcases i with _ | i
          · obtain rfl := Option.some.inj ho
            have e20 : ρ (.tmp 25) = .pointer (some ⟨x0.heap.size, 2, none⟩) := (hdep ⟨20, .data⟩ (by simp) rfl).1 25 rfl
            have yg : y 19 = some true := (hdep ⟨19, .guard⟩ (by simp) rfl).2 24 rfl
            clear hdep hout
            have kb := K00.out.later hBx
            have c0 := kb.c 0 _ rfl
            have c1 := kb.c 1 _ rfl
            have c2 := kb.c 2 _ rfl
            have cl0 := kb.lt
            refine .inl ⟨(by show (y 19 == some true) = true; rw [yg]; rfl), (Gives.val ?_ : Gives _ _ _ (.int .i64 n2) _)⟩
            go_simp
          rcases i with _ | i
          · obtain rfl := Option.some.inj ho
            have e21 : ρ (.tmp 26) = .int .i64 n2 := (hdep ⟨21, .data⟩ (by simp) rfl).1 26 rfl
            have yg : y 19 = some true := (hdep ⟨19, .guard⟩ (by simp) rfl).2 24 rfl
            have ocn : ∀ v, ρ (.const v) = v := fun v => hout (.const v) rfl
            clear hdep hout
            refine .inl ⟨(by show (y 19 == some true) = true; rw [yg]; rfl), (Gives.val ?_ : Gives _ _ _ (.bool true) _)⟩
            go_simp
          rcases i with _ | i
          · obtain rfl := Option.some.inj ho
            have e19 : ρ (.tmp 24) = .bool true := (hdep ⟨19, .data⟩ (by simp) rfl).1 24 rfl
            have e22 : ρ (.tmp 27) = .bool true := (hdep ⟨22, .data⟩ (by simp) rfl).1 27 rfl
            have ocn : ∀ v, ρ (.const v) = v := fun v => hout (.const v) rfl
            clear hdep hout
            refine .inl ⟨rfl, (Gives.val ?_ : Gives _ _ _ (.bool true) _)⟩
            go_simp
          rcases i with _ | i
          · obtain rfl := Option.some.inj ho
            have e23 : ρ (.tmp 28) = .bool true := (hdep ⟨23, .data⟩ (by simp) rfl).1 28 rfl
            clear hdep hout
            refine .inl ⟨rfl, (Gives.val ?_ : Gives _ _ _ (.bool true) _)⟩
            go_simp
          rcases i with _ | i
          · obtain rfl := Option.some.inj ho
            have o0 : ρ (.tmp 0) = .slice (some ⟨g, o, none⟩) pn cap := hout (.tmp 0) rfl
            have yg : y 24 = some true := (hdep ⟨24, .guard⟩ (by simp) rfl).2 29 rfl
            clear hdep hout
            refine .inl ⟨(by show (y 24 == some true) = true; rw [yg]; rfl), (Gives.val ?_ : Gives _ _ _ (.slice (some ⟨g, o, none⟩) pn cap) _)⟩
            go_simp
          rcases i with _ | i
          · obtain rfl := Option.some.inj ho
            have o3 : ρ (.tmp 3) = .pointer (some ⟨x0.heap.size, 0, none⟩) := hout (.tmp 3) rfl
            have yg : y 24 = some true := (hdep ⟨24, .guard⟩ (by simp) rfl).2 29 rfl
            clear hdep hout
            refine .inl ⟨(by show (y 24 == some true) = true; rw [yg]; rfl), (Gives.val ?_ : Gives _ _ _ (.pointer (some ⟨x0.heap.size, 0, none⟩)) _)⟩
            go_simp
          rcases i with _ | i
          · obtain rfl := Option.some.inj ho
            have e26 : ρ (.tmp 31) = .pointer (some ⟨x0.heap.size, 0, none⟩) := (hdep ⟨26, .data⟩ (by simp) rfl).1 31 rfl
            have yg : y 24 = some true := (hdep ⟨24, .guard⟩ (by simp) rfl).2 29 rfl
            clear hdep hout
            have kb := K00.out.later hBx
            have c0 := kb.c 0 _ rfl
            have c1 := kb.c 1 _ rfl
            have c2 := kb.c 2 _ rfl
            have cl0 := kb.lt
            refine .inl ⟨(by show (y 24 == some true) = true; rw [yg]; rfl), (Gives.val ?_ : Gives _ _ _ (.int .i64 k) _)⟩
            go_simp
          rcases i with _ | i
          · obtain rfl := Option.some.inj ho
            have e25 : ρ (.tmp 30) = .slice (some ⟨g, o, none⟩) pn cap := (hdep ⟨25, .data⟩ (by simp) rfl).1 30 rfl
            have e27 : ρ (.tmp 32) = .int .i64 k := (hdep ⟨27, .data⟩ (by simp) rfl).1 32 rfl
            have yg : y 24 = some true := (hdep ⟨24, .guard⟩ (by simp) rfl).2 29 rfl
            clear hdep hout
            refine .inl ⟨(by show (y 24 == some true) = true; rw [yg]; rfl), (Gives.val ?_ : Gives _ _ _ (.pointer (some ⟨g, o + k, none⟩)) _)⟩
            go_simp
          rcases i with _ | i
          · obtain rfl := Option.some.inj ho
            have e28 : ρ (.tmp 33) = .pointer (some ⟨g, o + k, none⟩) := (hdep ⟨28, .data⟩ (by simp) rfl).1 33 rfl
            have yg : y 24 = some true := (hdep ⟨24, .guard⟩ (by simp) rfl).2 29 rfl
            clear hdep hout
            refine .inl ⟨(by show (y 24 == some true) = true; rw [yg]; rfl), (Gives.val ?_ : Gives _ _ _ (.pointer (some ⟨g, o + k, none⟩)) _)⟩
            go_simp
          rcases i with _ | i
          · obtain rfl := Option.some.inj ho
            have e29 : ρ (.tmp 34) = .pointer (some ⟨g, o + k, none⟩) := (hdep ⟨29, .data⟩ (by simp) rfl).1 34 rfl
            have yg : y 24 = some true := (hdep ⟨24, .guard⟩ (by simp) rfl).2 29 rfl
            clear hdep hout
            have hcu := ((HAl.out.trans (hBx.mono HAl.out.size)).cell (p := ⟨g, o + k, none⟩) hg).trans hu
            refine .inl ⟨(by show (y 24 == some true) = true; rw [yg]; rfl), (Gives.val ?_ : Gives _ _ _ (.slice (some ⟨gi, o2, none⟩) cl ck) _)⟩
            go_simp
          rcases i with _ | i
          · obtain rfl := Option.some.inj ho
            have o3 : ρ (.tmp 3) = .pointer (some ⟨x0.heap.size, 0, none⟩) := hout (.tmp 3) rfl
            have yg : y 24 = some true := (hdep ⟨24, .guard⟩ (by simp) rfl).2 29 rfl
            clear hdep hout
            refine .inl ⟨(by show (y 24 == some true) = true; rw [yg]; rfl), (Gives.val ?_ : Gives _ _ _ (.pointer (some ⟨x0.heap.size, 1, none⟩)) _)⟩
            go_simp
          rcases i with _ | i
          · obtain rfl := Option.some.inj ho
            have e31 : ρ (.tmp 36) = .pointer (some ⟨x0.heap.size, 1, none⟩) := (hdep ⟨31, .data⟩ (by simp) rfl).1 36 rfl
            have yg : y 24 = some true := (hdep ⟨24, .guard⟩ (by simp) rfl).2 29 rfl
            clear hdep hout
            have kb := K00.out.later hBx
            have c0 := kb.c 0 _ rfl
            have c1 := kb.c 1 _ rfl
            have c2 := kb.c 2 _ rfl
            have cl0 := kb.lt
            refine .inl ⟨(by show (y 24 == some true) = true; rw [yg]; rfl), (Gives.val ?_ : Gives _ _ _ (.int .i64 a) _)⟩
            go_simp
          rcases i with _ | i
          · obtain rfl := Option.some.inj ho
            have e30 : ρ (.tmp 35) = .slice (some ⟨gi, o2, none⟩) cl ck := (hdep ⟨30, .data⟩ (by simp) rfl).1 35 rfl
            have e32 : ρ (.tmp 37) = .int .i64 a := (hdep ⟨32, .data⟩ (by simp) rfl).1 37 rfl
            have yg : y 24 = some true := (hdep ⟨24, .guard⟩ (by simp) rfl).2 29 rfl
            clear hdep hout
            refine .inl ⟨(by show (y 24 == some true) = true; rw [yg]; rfl), (Gives.val ?_ : Gives _ _ _ (.pointer (some ⟨gi, o2 + a * 4, none⟩)) _)⟩
            go_simp
          rcases i with _ | i
          · obtain rfl := Option.some.inj ho
            have e33 : ρ (.tmp 38) = .pointer (some ⟨gi, o2 + a * 4, none⟩) := (hdep ⟨33, .data⟩ (by simp) rfl).1 38 rfl
            have yg : y 24 = some true := (hdep ⟨24, .guard⟩ (by simp) rfl).2 29 rfl
            clear hdep hout
            have hbz := HAl.out.trans (hBx.mono HAl.out.size)
            have i0 := (hbz.cell (p := ⟨gi, o2 + a * 4, none⟩) hg2).trans q0
            have i1 := (hbz.cell (p := ⟨gi, o2 + a * 4 + 1, none⟩) hg2).trans q1
            have i2 := (hbz.cell (p := ⟨gi, o2 + a * 4 + 2, none⟩) hg2).trans q2
            have i3 := (hbz.cell (p := ⟨gi, o2 + a * 4 + 3, none⟩) hg2).trans q3
            refine .inl ⟨(by show (y 24 == some true) = true; rw [yg]; rfl), (Gives.val ?_ : Gives _ _ _ (.agg #[.int .i64 I.1, .int .i64 I.2.1, .int .i64 I.2.2.1, .int .i64 I.2.2.2]) _)⟩
            go_simp
          rcases i with _ | i
          · obtain rfl := Option.some.inj ho
            have e34 : ρ (.tmp 39) = .agg #[.int .i64 I.1, .int .i64 I.2.1, .int .i64 I.2.2.1, .int .i64 I.2.2.2] := (hdep ⟨34, .data⟩ (by simp) rfl).1 39 rfl
            have yg : y 24 = some true := (hdep ⟨24, .guard⟩ (by simp) rfl).2 29 rfl
            have ofn : ∀ f, ρ (.func f) = .func (.func f) #[] #[] := fun f => hout (.func f) rfl
            clear hdep hout
            refine .inl ⟨?_, ?_⟩
            · show (y 24 == some true) = true
              rw [yg]; rfl
            show Gives _ _ _ (.int .i64 (faultF I)) _
            refine Gives.call (HFO.out x) ?_
            go_simp
          rcases i with _ | i
          · obtain rfl := Option.some.inj ho
            have o3 : ρ (.tmp 3) = .pointer (some ⟨x0.heap.size, 0, none⟩) := hout (.tmp 3) rfl
            have yg : y 24 = some true := (hdep ⟨24, .guard⟩ (by simp) rfl).2 29 rfl
            clear hdep hout
            refine .inl ⟨(by show (y 24 == some true) = true; rw [yg]; rfl), (Gives.val ?_ : Gives _ _ _ (.pointer (some ⟨x0.heap.size, 2, none⟩)) _)⟩
            go_simp
          rcases i with _ | i
          · obtain rfl := Option.some.inj ho
            have e36 : ρ (.tmp 41) = .pointer (some ⟨x0.heap.size, 2, none⟩) := (hdep ⟨36, .data⟩ (by simp) rfl).1 41 rfl
            have yg : y 24 = some true := (hdep ⟨24, .guard⟩ (by simp) rfl).2 29 rfl
            clear hdep hout
            have kb := K00.out.later hBx
            have c0 := kb.c 0 _ rfl
            have c1 := kb.c 1 _ rfl
            have c2 := kb.c 2 _ rfl
            have cl0 := kb.lt
            refine .inl ⟨(by show (y 24 == some true) = true; rw [yg]; rfl), (Gives.val ?_ : Gives _ _ _ (.int .i64 n2) _)⟩
            go_simp
          rcases i with _ | i
          · obtain rfl := Option.some.inj ho
            have e35 : ρ (.tmp 40) = .int .i64 (faultF I) := (hdep ⟨35, .data⟩ (by simp) rfl).1 40 rfl
            have e37 : ρ (.tmp 42) = .int .i64 n2 := (hdep ⟨37, .data⟩ (by simp) rfl).1 42 rfl
            have yg : y 24 = some true := (hdep ⟨24, .guard⟩ (by simp) rfl).2 29 rfl
            clear hdep hout
            refine .inl ⟨(by show (y 24 == some true) = true; rw [yg]; rfl), (Gives.val ?_ : Gives _ _ _ (.bool (faultF I == n2)) _)⟩
            go_simp
          rcases i with _ | i
          · obtain rfl := Option.some.inj ho
            have e24 : ρ (.tmp 29) = .bool true := (hdep ⟨24, .data⟩ (by simp) rfl).1 29 rfl
            have e38 : ρ (.tmp 43) = .bool (faultF I == n2) := (hdep ⟨38, .data⟩ (by simp) rfl).1 43 rfl
            have ocn : ∀ v, ρ (.const v) = v := fun v => hout (.const v) rfl
            clear hdep hout
            refine .inl ⟨rfl, (Gives.val ?_ : Gives _ _ _ (.bool (faultF I == n2)) _)⟩
            go_simp
          rcases i with _ | i
          · obtain rfl := Option.some.inj ho
            have e39 : ρ (.tmp 44) = .bool (faultF I == n2) := (hdep ⟨39, .data⟩ (by simp) rfl).1 44 rfl
            clear hdep hout
            refine .inl ⟨rfl, (Gives.val ?_ : Gives _ _ _ (.bool (faultF I == n2)) _)⟩
            go_simp
          cases ho
        case fin =>
          intro x hBx
          have hBf := HAl.out.trans (hBx.mono HAl.out.size)
          go_wp2_with fail
          go_ret
          exact ⟨retBool (by rw [HFr3.out]; exact eqb2 n2 (faultF I) h5), hBf⟩

end Go.Proofs.YtlkebkajdlgebaaGreat
