import Derived.Test.YtlkebkajdlgebaaGreatB20
import Derived.Test.YtlkebkajdlgebaaGreatB13
/-
  The contracts of the laws' own helpers that copy sums: toRow, toRowS, toSum, toSumS.
-/
namespace Go.Proofs.YtlkebkajdlgebaaGreat
open Go.RowKit
set_option linter.unusedVariables false
set_option linter.unusedSimpArgs false

def aggRw (r : Rw) (u v : Value) : Value := .agg #[.bool r.o.1, .int .i64 r.o.2.1, .int .i64 r.o.2.2, u, v]

set_option maxRecDepth 100000 in
set_option maxHeartbeats 4000000 in
theorem toRow_any (x : World) (r : Rw) (u v : Value) (hu : IRowW 3 x u r.ns r.S) (hv : IRowW 2 x v r.nc r.C) (hr : rwSz r) :
    Calls Tryz.prog 56 #[aggRw r u v] x fun e y => ∃ u' v', e = .returned (aggRw r u' v') ∧ IRow 3 true y x.heap.size y.heap.size u' r.ns r.S ∧ IRow 2 true y x.heap.size y.heap.size v' r.nc r.C ∧ Below x.heap.size x y := by
  obtain ⟨⟨b0, n1, n2⟩, ns, S, nc, C⟩ := r
  unfold aggRw
  simp only at hu hv ⊢
  obtain ⟨p, k, rfl⟩ := hu.shape
  obtain ⟨p', k', rfl⟩ := hv.shape
  have HU : Hid (IRowW 3 x (.slice p ns k) ns S) := hu
  have HV : Hid (IRowW 2 x (.slice p' nc k') nc C) := hv
  have HR : Hid (ns ≤ 1048576 ∧ nc ≤ 1048576) := hr
  clear hu hv hr
  go_enter Tryz.func56, Tryz.ntmps56
  go_wp2_with fail
  generalize hX : ((x.alloc (.cells #[.bool b0, .int .i64 n1, .int .i64 n2, .slice p ns k, .slice p' nc k'] 90)).alloc (.cells #[.bool false, .int .i64 0, .int .i64 0, .slice none 0 0, .slice none 0 0] 71)).alloc (.cells #[.bool false, .int .i64 0, .int .i64 0, .slice none 0 0, .slice none 0 0] 71) = X
  have HB : Hid (Below x.heap.size x X) := by show Below _ _ _; rw [← hX]; exact (((Below.refl _ _).alloc (Nat.le_refl _) _).alloc (by simp) _).alloc (by simp; omega) _
  have hsz : X.heap.size = x.heap.size + 3 := by rw [← hX]; simp
  have K0 : Hid (BxN X x.heap.size [.bool b0, .int .i64 n1, .int .i64 n2, .slice p ns k, .slice p' nc k']) := by
    show BxN _ _ _; rw [← hX]; exact ((BxN.new x [_, _, _, _, _] _).later ((Below.refl _ _).alloc (Nat.le_refl _) _)).later ((Below.refl _ _).alloc (Nat.le_refl _) _)
  have K1 : Hid (BxN X (x.heap.size + 1) [.bool false, .int .i64 0, .int .i64 0, .slice none 0 0, .slice none 0 0]) := by
    show BxN _ _ _; rw [← hX]
    have := (BxN.new (x.alloc (.cells #[.bool b0, .int .i64 n1, .int .i64 n2, .slice p ns k, .slice p' nc k'] 90)) [.bool false, .int .i64 0, .int .i64 0, .slice none 0 0, .slice none 0 0] 71).later ((Below.refl _ _).alloc (Nat.le_refl _) (.cells #[.bool false, .int .i64 0, .int .i64 0, .slice none 0 0, .slice none 0 0] 71))
    simpa using this
  have K2 : Hid (BxN X (x.heap.size + 1 + 1) [.bool false, .int .i64 0, .int .i64 0, .slice none 0 0, .slice none 0 0]) := by
    show BxN _ _ _; rw [← hX]
    have := BxN.new ((x.alloc (.cells #[.bool b0, .int .i64 n1, .int .i64 n2, .slice p ns k, .slice p' nc k'] 90)).alloc (.cells #[.bool false, .int .i64 0, .int .i64 0, .slice none 0 0, .slice none 0 0] 71)) [.bool false, .int .i64 0, .int .i64 0, .slice none 0 0, .slice none 0 0] 71
    simpa using this
  clear hX
  refine (toSpan_any b0 n1 n2 X).mono ?_
  rintro e x1 ⟨rfl, hb⟩
  have HB1 : Hid (Below x.heap.size x x1) := HB.out.trans (hb.mono HB.out.size)
  have J0 := K0.out.laterH hb
  have J1 := K1.out.laterH hb
  have J2 := K2.out.laterH hb
  have hs1 : x.heap.size + 3 ≤ x1.heap.size := by have := hb.size; omega
  clear hb K0 K1 K2 HB hsz
  have a3 := J0.out.c 3 _ rfl
  have b0' := J2.out.c 0 _ rfl
  have b1' := J2.out.c 1 _ rfl
  have b2' := J2.out.c 2 _ rfl
  have f0 := J2.out.fz 0
  have f1 := J2.out.fz 1
  have f2 := J2.out.fz 2
  have l2 : x.heap.size + 1 + 1 < x1.heap.size := by omega
  go_wp2_with fail
  generalize hY : ((x1.setCell ⟨x.heap.size + 1 + 1, 0, none⟩ (.bool b0)).setCell ⟨x.heap.size + 1 + 1, 1, none⟩ (.int .i64 n1)).setCell ⟨x.heap.size + 1 + 1, 2, none⟩ (.int .i64 n2) = Y
  have hlo : x.heap.size ≤ x.heap.size + 1 + 1 := by omega
  have HB2 : Hid (Below x.heap.size x Y) := by show Below _ _ _; rw [← hY]; exact ((HB1.out.setCell (p := ⟨x.heap.size + 1 + 1, 0, none⟩) hlo _).setCell (p := ⟨x.heap.size + 1 + 1, 1, none⟩) hlo _).setCell (p := ⟨x.heap.size + 1 + 1, 2, none⟩) hlo _
  have M0 : Hid (BxN Y x.heap.size [.bool b0, .int .i64 n1, .int .i64 n2, .slice p ns k, .slice p' nc k']) := by show BxN _ _ _; rw [← hY]; exact ((J0.out.off (by omega)).off (by omega)).off (by omega)
  have M1 : Hid (BxN Y (x.heap.size + 1) [.bool false, .int .i64 0, .int .i64 0, .slice none 0 0, .slice none 0 0]) := by show BxN _ _ _; rw [← hY]; exact ((J1.out.off (by omega)).off (by omega)).off (by omega)
  have M2 : Hid (BxN Y (x.heap.size + 1 + 1) [.bool b0, .int .i64 n1, .int .i64 n2, .slice none 0 0, .slice none 0 0]) := by show BxN _ _ _; rw [← hY]; exact ((J2.out.set 0 (by simp) _).set 1 (by simp) _).set 2 (by simp) _
  have hs2 : x.heap.size + 3 ≤ Y.heap.size := by rw [← hY]; simpa using hs1
  clear hY a3 b0' b1' b2' f0 f1 f2 l2 J0 J1 J2 HB1 hs1
  refine (toSiteS_any Y false 0 Y.heap.size _ ns S (HU.out.later HB2.out) HR.out.1).mono ?_
  rintro e y ⟨v1, rfl, h1, hb⟩
  obtain ⟨q1, c1, rfl⟩ := h1.shape
  have HB3 : Hid (Below x.heap.size x y) := HB2.out.trans (hb.mono HB2.out.size)
  have N0 := M0.out.laterH hb
  have N1 := M1.out.laterH hb
  have N2 := M2.out.laterH hb
  have hs3 : x.heap.size + 3 ≤ y.heap.size := by have := hb.size; omega
  have H1 : Hid (IRow 3 true y (x.heap.size + 3) y.heap.size (.slice q1 ns c1) ns S) := h1.wide hs2 (Nat.le_refl _) (Nat.le_refl _)
  clear h1 hb M0 M1 M2 HB2 hs2
  have a4 := N0.out.c 4 _ rfl
  have b3 := N2.out.c 3 _ rfl
  have f3 := N2.out.fz 3
  have l2 : x.heap.size + 1 + 1 < y.heap.size := by omega
  go_wp2_with fail
  generalize hZ : y.setCell ⟨x.heap.size + 1 + 1, 3, none⟩ (.slice q1 ns c1) = Z
  have HB4 : Hid (Below x.heap.size x Z) := by show Below _ _ _; rw [← hZ]; exact HB3.out.setCell (p := ⟨x.heap.size + 1 + 1, 3, none⟩) hlo _
  have O0 := N0.out.offH hZ (by omega)
  have O1 := N1.out.offH hZ (by omega)
  have O2 := N2.out.setH hZ (by simp)
  have H2 : Hid (IRow 3 true Z (x.heap.size + 3) y.heap.size (.slice q1 ns c1) ns S) := by show IRow _ _ _ _ _ _ _ _; rw [← hZ]; exact H1.out.off (by omega)
  have hs4 : Z.heap.size = y.heap.size := by rw [← hZ]; simp
  clear hZ a4 b3 f3 l2 N0 N1 N2 HB3 H1
  refine (toCallS_any Z false 0 Z.heap.size _ nc C (HV.out.later HB4.out) HR.out.2).mono ?_
  rintro e z ⟨v2, rfl, h2, hb⟩
  obtain ⟨q2, c2, rfl⟩ := h2.shape
  have HB5 : Hid (Below x.heap.size x z) := HB4.out.trans (hb.mono HB4.out.size)
  have P0 := O0.out.later hb
  have P1 := O1.out.later hb
  have P2 := O2.out.later hb
  have H13 : Hid (IRow 3 true z (x.heap.size + 3) y.heap.size (.slice q1 ns c1) ns S) := H2.out.later hb
  have H23 : Hid (IRow 2 true z (x.heap.size + 3) z.heap.size (.slice q2 nc c2) nc C) := h2.wide (by omega) (Nat.le_refl _) (Nat.le_refl _)
  have hs5 : y.heap.size ≤ z.heap.size := by have := hb.size; omega
  clear h2 hb O0 O1 O2 HB4 H2 hs4
  have r0 := P1.c 0 _ rfl
  have r1 := P1.c 1 _ rfl
  have r2 := P1.c 2 _ rfl
  have r3 := P1.c 3 _ rfl
  have r4 := P1.c 4 _ rfl
  have g0 := P1.fz 0
  have g1 := P1.fz 1
  have g2 := P1.fz 2
  have g3 := P1.fz 3
  have g4 := P1.fz 4
  have b0' := P2.c 0 _ rfl
  have b1 := P2.c 1 _ rfl
  have b2 := P2.c 2 _ rfl
  have b3 := P2.c 3 _ rfl
  have b4 := P2.c 4 _ rfl
  have f4 := P2.fz 4
  have l1 : x.heap.size + 1 < z.heap.size := by omega
  have l2 : x.heap.size + 1 + 1 < z.heap.size := by omega
  clear P0 P1 P2
  go_wp2_with fail
  refine bodyPost_ret (v := .agg #[.bool b0, .int .i64 n1, .int .i64 n2, .slice q1 ns c1, .slice q2 nc c2]) (by simp [results, Tryz.results56, go_sem, l1, l2, b0', b1, b2, b3, b4, r0, r1, r2, r3, r4, g0, g1, g2, g3, g4, f4]) rfl ⟨_, _, rfl, ?_, ?_, ?_⟩
  · refine IRow.wide (B := x.heap.size + 3) (E := y.heap.size) ?_ (by omega) (by simp; omega) (by simp)
    repeat (refine IRow.off ?_ (by omega))
    exact H13.out
  · refine IRow.wide (B := x.heap.size + 3) (E := z.heap.size) ?_ (by omega) (by simp) (by simp)
    repeat (refine IRow.off ?_ (by omega))
    exact H23.out
  · repeat (refine Below.setCell ?_ (by simp <;> omega) _)
    exact HB5.out

/-- the five cells of a row whose lists lie in blocks from B on -/
structure RwD (x : World) (B g o : Nat) (r : Rw) : Prop where
  c0 : x.cell? ⟨g, o, none⟩ = some (.bool r.o.1)
  c1 : x.cell? ⟨g, o + 1, none⟩ = some (.int .i64 r.o.2.1)
  c2 : x.cell? ⟨g, o + 2, none⟩ = some (.int .i64 r.o.2.2)
  c3 : ∃ u, x.cell? ⟨g, o + 3, none⟩ = some u ∧ IRow 3 true x B x.heap.size u r.ns r.S
  c4 : ∃ u, x.cell? ⟨g, o + 4, none⟩ = some u ∧ IRow 2 true x B x.heap.size u r.nc r.C
theorem RwD.rwc {x : World} {B g o : Nat} {r : Rw} (h : RwD x B g o r) : RwC x g o r := by
  obtain ⟨c0, c1, c2, ⟨u3, c3, i3⟩, ⟨u4, c4, i4⟩⟩ := h
  exact ⟨c0, c1, c2, ⟨u3, c3, i3.any⟩, ⟨u4, c4, i4.any⟩⟩
theorem RwD.later {x y : World} {B g o : Nat} {r : Rw} (h : RwD x B g o r) (hb : Below x.heap.size x y) (hg : g < x.heap.size) : RwD y B g o r := by
  obtain ⟨c0, c1, c2, ⟨u3, c3, i3⟩, ⟨u4, c4, i4⟩⟩ := h
  exact ⟨(hb.cell (p := ⟨g, _, none⟩) hg).trans c0, (hb.cell (p := ⟨g, _, none⟩) hg).trans c1, (hb.cell (p := ⟨g, _, none⟩) hg).trans c2, ⟨u3, (hb.cell (p := ⟨g, _, none⟩) hg).trans c3, (i3.later hb).wide (Nat.le_refl _) hb.size (Nat.le_refl _)⟩, ⟨u4, (hb.cell (p := ⟨g, _, none⟩) hg).trans c4, (i4.later hb).wide (Nat.le_refl _) hb.size (Nat.le_refl _)⟩⟩
theorem IRow.offL {m : Nat} {z : Bool} {x : World} {B E : Nat} {v : Value} {n : Nat} {N : Nat → Int} (h : IRow m z x B E v n N) {b o : Nat} {M : List Value} (hb : b < B ∨ E ≤ b) : IRow m z (setL x b o M) B E v n N :=
  h.stay (by rw [setL_size]; exact Nat.le_refl _) fun g k h1 h2 => ⟨setL_miss _ _ _ _ _ _ (by omega), setL_frozen _ _ _ _ _⟩
/-- what stands in blocks from B on stays where one ahead is stored into -/
theorem RwD.offB {x : World} {B g o b q : Nat} {r : Rw} {M : List Value} (h : RwD x B g o r) (hB : b < B) (hbg : b ≠ g ∨ o + 5 ≤ q ∨ q + M.length ≤ o) : RwD (setL x b q M) B g o r := by
  obtain ⟨c0, c1, c2, ⟨u3, c3, i3⟩, ⟨u4, c4, i4⟩⟩ := h
  have far : ∀ k, k < 5 → (setL x b q M).cell? ⟨g, o + k, none⟩ = x.cell? ⟨g, o + k, none⟩ := fun k hk => setL_miss _ _ _ _ _ _ (by omega)
  refine ⟨(far 0 (by omega)).trans c0, (far 1 (by omega)).trans c1, (far 2 (by omega)).trans c2, ⟨u3, (far 3 (by omega)).trans c3, ?_⟩, ⟨u4, (far 4 (by omega)).trans c4, ?_⟩⟩
  · rw [setL_size]; exact i3.offL (.inl hB)
  · rw [setL_size]; exact i4.offL (.inl hB)
/-- new rows, in blocks from B on -/
def RowsD (x : World) (B : Nat) (v : Value) (R : List Rw) : Prop := ∃ g cap, v = .slice (some ⟨g, 0, none⟩) R.length cap ∧ R.length ≤ maxLen ∧ B ≤ g ∧ g < x.heap.size ∧ ∀ j, j < R.length → RwD x (g + 1) g (j * 5) (R.getD j rw0)
theorem RowsD.rows {x : World} {B : Nat} {v : Value} {R : List Rw} (h : RowsD x B v R) : RowsAt x v R := by
  obtain ⟨g, cap, hv, hm, hB, hg, hj⟩ := h
  exact ⟨_, cap, hv, hm, .inr ⟨g, 0, rfl, hg, fun j h => by rw [Nat.zero_add]; exact (hj j h).rwc⟩⟩
theorem RowsD.later {x y : World} {B : Nat} {v : Value} {R : List Rw} (h : RowsD x B v R) (hb : Below x.heap.size x y) : RowsD y B v R := by
  obtain ⟨g, cap, hv, hm, hB, hg, hj⟩ := h
  exact ⟨g, cap, hv, hm, hB, Nat.lt_of_lt_of_le hg hb.size, fun j h => (hj j h).later hb hg⟩
theorem RowsD.lower {x : World} {B C : Nat} {v : Value} {R : List Rw} (h : RowsD x B v R) (hc : C ≤ B) : RowsD x C v R := by
  obtain ⟨g, cap, hv, hm, hB, hg, hj⟩ := h
  exact ⟨g, cap, hv, hm, by omega, hg, hj⟩
theorem RowsD.offL {x : World} {B : Nat} {v : Value} {R : List Rw} (h : RowsD x B v R) {b q : Nat} {M : List Value} (hb : b < B) : RowsD (setL x b q M) B v R := by
  obtain ⟨g, cap, hv, hm, hB, hg, hj⟩ := h
  exact ⟨g, cap, hv, hm, hB, by rw [setL_size]; exact hg, fun j h => (hj j h).offB (by omega) (.inl (by omega))⟩

theorem infoRow : (Tryz.prog.info? 71).map (fun i => (i.zero, i.size, i.bytes)) = some (some (.agg #[.bool false, .int .i64 0, .int .i64 0, .slice none 0 0, .slice none 0 0]), 5, 72) := by kernel_rfl
set_option maxRecDepth 100000 in
set_option maxHeartbeats 4000000 in
theorem toRowS_new (x : World) (v : Value) (R : List Rw) (h : RowsAt x v R) (hsz : rowsSz R) :
    Calls Tryz.prog 34 #[v] x fun e y => ∃ u, e = .returned u ∧ RowsD y x.heap.size u R ∧ Below x.heap.size x y := by
  obtain ⟨i, hi, hz0, hz1, hz2⟩ : ∃ i, Tryz.prog.info? 71 = some i ∧ i.zero = some (.agg #[.bool false, .int .i64 0, .int .i64 0, .slice none 0 0, .slice none 0 0]) ∧ i.size = 5 ∧ i.bytes = 72 := info_parts infoRow
  have HI : Hid (Tryz.prog.info? 71 = some i ∧ i.zero = some (.agg #[.bool false, .int .i64 0, .int .i64 0, .slice none 0 0, .slice none 0 0]) ∧ i.size = 5 ∧ i.bytes = 72) := ⟨hi, hz0, hz1, hz2⟩
  clear hi hz0 hz1 hz2
  obtain ⟨p, cap, rfl, hm, hc⟩ := h
  obtain ⟨hn, hall⟩ := hsz
  generalize hL : R.length = n at *
  have HL : Hid (R.length = n) := hL
  have HN : Hid (n ≤ 1048576) := hn
  have HA : Hid (∀ j, j < n → rwSz (R.getD j rw0)) := hall
  have hni : (n : Int) ≤ 1048576 := by omega
  have HM : Hid (n ≤ maxLen) := hm
  clear hL hn hm hall
  go_enter Tryz.func34, Tryz.ntmps34
  go_wp2_with (refine wpList_make_full _ rfl _ _ 31 rfl x.heap.size 71 i (.agg #[.bool false, .int .i64 0, .int .i64 0, .slice none 0 0, .slice none 0 0]) 5 Tryz.underlying31 HI.out.1 HI.out.2.1 HI.out.2.2.1 .i64 .i64 n n n rfl rfl rfl rfl ?b2 HM.out (Nat.le_refl _) ?_)
  case b2 => rw [HI.out.2.2.2]; have := HN.out; omega
  intro w1 hown0 hgr
  obtain ⟨xs, hown⟩ : ∃ xs, w1.ownsRow x.heap.size 71 5 (.slice (some ⟨x.heap.size, 0, none⟩) n n) n xs := ⟨_, hown0⟩
  clear hown0
  have hg1 : x.heap.size < w1.heap.size := (World.ownsRow.lt hown x.heap.size rfl).2
  have hB1 : Below x.heap.size x w1 := (Below.refl _ _).grown hgr (Nat.le_refl _) (fun k hk => by simp at hk)
  have hcell : ∀ k, k < n * 5 → ∃ v, w1.cell? ⟨x.heap.size, k, none⟩ = some v := by
    intro k hk
    have hl : k < xs.length := by rw [hown.1]; exact hk
    have := World.ownsRow.cells hown rfl k _ (List.getElem?_eq_getElem hl)
    rw [Addr.add_mid, Nat.zero_add] at this
    exact ⟨_, this⟩
  have hfz : ∀ k, w1.frozen? ⟨x.heap.size, k, none⟩ = false := fun k => World.ownsRow.frozenAt hown k
  clear hown hgr
  go_wp2_with fail
  go_loopw [4] (fun t y => ∃ k : Nat, k ≤ n ∧ t = .int .i64 k ∧ Below x.heap.size x y ∧ x.heap.size < y.heap.size ∧ (∀ j, j < n * 5 → ∃ v, y.cell? ⟨x.heap.size, j, none⟩ = some v) ∧ (∀ j, y.frozen? ⟨x.heap.size, j, none⟩ = false) ∧ (∀ j, j < k → RwD y (x.heap.size + 1) x.heap.size (j * 5) (R.getD j rw0))) (fun t _ => n - (intOf t).toNat)
  case atStart => exact ⟨0, by omega, rfl, hB1, hg1, hcell, hfz, fun j hj => by omega⟩
  case round =>
    clear hB1 hg1 hcell hfz
    obtain ⟨k, hk, rfl, hB, hg, hcell, hfz, hdone⟩ := hrel
    by_cases hlt : k < n
    · rcases hc with h0 | ⟨g, o, rfl, hgx, hins⟩
      · omega
      have hki : (k : Int) < (n : Int) := by omega
      obtain ⟨d0, d1, d2, ⟨u3, d3, i3⟩, ⟨u4, d4, i4⟩⟩ := (hins k hlt).later hB hgx
      have HC : Hid (∀ j, j < n * 5 → ∃ v, wr.cell? ⟨x.heap.size, j, none⟩ = some v) := hcell
      have HF : Hid (∀ j, wr.frozen? ⟨x.heap.size, j, none⟩ = false) := hfz
      have HD : Hid (∀ j, j < k → RwD wr (x.heap.size + 1) x.heap.size (j * 5) (R.getD j rw0)) := hdone
      have HBB : Hid (Below x.heap.size x wr) := hB
      have HLL : Hid (rwSz (R.getD k rw0)) := HA.out k hlt
      have HI3 : Hid (IRowW 3 wr u3 (R.getD k rw0).ns (R.getD k rw0).S) := i3
      have HI4 : Hid (IRowW 2 wr u4 (R.getD k rw0).nc (R.getD k rw0).C) := i4
      obtain ⟨p3, k3, rfl⟩ := i3.shape
      obtain ⟨p4, k4, rfl⟩ := i4.shape
      clear hcell hdone hins hfz i3 i4 hB
      generalize hI : R.getD k rw0 = f at *
      have HII : Hid (R.getD k rw0 = f) := hI
      clear hI
      go_wp2_with fail
      refine (toRow_any wr f _ _ HI3.out HI4.out HLL.out).mono ?_
      rintro e w2 ⟨v3, v4, rfl, q3, q4, hb2⟩
      obtain ⟨p3', k3', rfl⟩ := q3.shape
      obtain ⟨p4', k4', rfl⟩ := q4.shape
      unfold aggRw
      have H3 : Hid (IRow 3 true w2 (x.heap.size + 1) w2.heap.size (.slice p3' f.ns k3') f.ns f.S) := q3.wide (by omega) (Nat.le_refl _) (Nat.le_refl _)
      have H4 : Hid (IRow 2 true w2 (x.heap.size + 1) w2.heap.size (.slice p4' f.nc k4') f.nc f.C) := q4.wide (by omega) (Nat.le_refl _) (Nat.le_refl _)
      have HB2 : Hid (Below x.heap.size x w2) := HBB.out.trans (hb2.mono HBB.out.size)
      have HC2 : Hid (∀ j, j < n * 5 → ∃ v, w2.cell? ⟨x.heap.size, j, none⟩ = some v) := fun j hj => by
        obtain ⟨v, hv⟩ := HC.out j hj
        exact ⟨v, (hb2.cell (p := ⟨x.heap.size, j, none⟩) hg).trans hv⟩
      have HF2 : Hid (∀ j, w2.frozen? ⟨x.heap.size, j, none⟩ = false) := fun j => (hb2.frozen (p := ⟨x.heap.size, j, none⟩) hg).trans (HF.out j)
      have HD2 : Hid (∀ j, j < k → RwD w2 (x.heap.size + 1) x.heap.size (j * 5) (R.getD j rw0)) := fun j hj => (HD.out j hj).later hb2 hg
      have hg2 : x.heap.size < w2.heap.size := Nat.lt_of_lt_of_le hg hb2.size
      obtain ⟨e0, z0⟩ := HC2.out (k * 5) (by omega)
      obtain ⟨e1, z1⟩ := HC2.out (k * 5 + 1) (by omega)
      obtain ⟨e2, z2⟩ := HC2.out (k * 5 + 2) (by omega)
      obtain ⟨e3, z3⟩ := HC2.out (k * 5 + 3) (by omega)
      obtain ⟨e4, z4⟩ := HC2.out (k * 5 + 4) (by omega)
      have f0 := HF2.out (k * 5)
      have f1 := HF2.out (k * 5 + 1)
      have f2 := HF2.out (k * 5 + 2)
      have f3 := HF2.out (k * 5 + 3)
      have f4 := HF2.out (k * 5 + 4)
      clear d0 d1 d2 d3 d4 q3 q4 hb2 HC HF HD HBB HI3 HI4 HLL
      go_wp2_with fail
      go_roundw
      case rel =>
        refine ⟨k + 1, by omega, by go_num, ?_⟩
        generalize hM : [Value.bool f.o.1, .int .i64 f.o.2.1, .int .i64 f.o.2.2, .slice p3' f.ns k3', .slice p4' f.nc k4'] = M
        have hMl : M.length = 5 := by rw [← hM]; rfl
        have hgo : ∀ y, y = setL w2 x.heap.size (k * 5) M → (Below x.heap.size x y ∧ x.heap.size < y.heap.size ∧ (∀ j, j < n * 5 → ∃ v, y.cell? ⟨x.heap.size, j, none⟩ = some v) ∧ (∀ j, y.frozen? ⟨x.heap.size, j, none⟩ = false) ∧ (∀ j, j < k + 1 → RwD y (x.heap.size + 1) x.heap.size (j * 5) (R.getD j rw0))) := by
          intro y hy
          subst hy
          refine ⟨setL_below M HB2.out (Nat.le_refl _), by rw [setL_size]; exact hg2, fun j hj => setL_some _ _ _ _ _ (HC2.out j hj), fun j => (setL_frozen _ _ _ _ _).trans (HF2.out j), fun j hj => ?_⟩
          by_cases hjk : j = k
          · subst hjk
            rw [HII.out]
            have hh := setL_hit w2 x.heap.size (j * 5) M (fun i hi => HC2.out _ (by omega))
            subst hM
            refine ⟨hh 0 _ rfl, hh 1 _ rfl, hh 2 _ rfl, ⟨_, hh 3 _ rfl, ?_⟩, ⟨_, hh 4 _ rfl, ?_⟩⟩
            · rw [setL_size]; exact H3.out.offL (.inl (by omega))
            · rw [setL_size]; exact H4.out.offL (.inl (by omega))
          · exact (HD2.out j (by omega)).offB (by omega) (.inr (by omega))
        exact hgo _ (by rw [← hM]; rfl)
      case measure => simp [intOf]; omega
    · obtain rfl : k = n := by omega
      have hki : ¬ (k : Int) < (k : Int) := by omega
      have HD : Hid (∀ j, j < k → RwD wr (x.heap.size + 1) x.heap.size (j * 5) (R.getD j rw0)) := hdone
      clear hcell hdone hc hfz
      go_wp2_with fail
      go_ret
      exact ⟨_, rfl, ⟨x.heap.size, k, by rw [HL.out]; rfl, by rw [HL.out]; exact HM.out, Nat.le_refl _, hg, fun j hj => by rw [HL.out] at hj; exact HD.out j hj⟩, hB⟩

end Go.Proofs.YtlkebkajdlgebaaGreat

/-
  Whether a row is ok: the contract of rowOk, given one of callsOf.
-/
namespace Go.Proofs.YtlkebkajdlgebaaGreat
open Go.RowKit
set_option linter.unusedVariables false
set_option linter.unusedSimpArgs false

/-- callsOf of this code gives the numbers of which q holds -/
def CallsOfIs (B : Nat) (code : List I4) (q : Int → Bool) : Prop := ∀ (y : World) (uc : Value), CodeAt y B uc code → Calls Tryz.prog 108 #[.agg #[uc]] y fun e z => ∃ w L, e = .returned w ∧ IntsW z w L ∧ (∀ m, decide (m ∈ L) = q m) ∧ Below y.heap.size y z
def rowF (P : List (List I4)) (k : Int) (q : Int → Bool) (r : Rw) : Bool := okF r.o.1 r.o.2.1 r.o.2.2 && sitesF P k r.ns r.S && callsF q r.nc r.C
set_option maxRecDepth 100000 in
set_option maxHeartbeats 4000000 in
theorem rowOk_of (x0 : World) (B : Nat) (v : Value) (P : List (List I4)) (h : ProgAt x0 B v P) (hok : progOkF P = true) (k0 : Nat) (hk0 : k0 < P.length) (r : Rw) (u w : Value) (hs : IRowW 3 x0 u r.ns r.S) (hc : IRowW 2 x0 w r.nc r.C) (q : Int → Bool) (HC : CallsOfIs B (P.getD k0 []) q) :
    Calls Tryz.prog 59 #[v, .int .i64 k0, aggRw r u w] x0 fun e y => e = .returned (.bool (rowF P k0 q r)) ∧ Below x0.heap.size x0 y := by
  obtain ⟨⟨a, l, uu⟩, ns, S, nc, C⟩ := r
  dsimp only at hs hc
  obtain ⟨pp, cp, rfl, _⟩ := h.shape
  obtain ⟨ps, cs, rfl⟩ := hs.shape
  obtain ⟨pc, cc, rfl⟩ := hc.shape
  have HF : Hid (rowF P k0 q ⟨(a, l, uu), ns, S, nc, C⟩ = (okF a l uu && sitesF P k0 ns S && callsF q nc C)) := rfl
  generalize rowF P k0 q ⟨(a, l, uu), ns, S, nc, C⟩ = F at HF ⊢
  have HP : Hid (ProgAt x0 B (.slice pp P.length cp) P) := h
  have HOK : Hid (progOkF P = true) := hok
  have HS : Hid (IRowW 3 x0 (.slice ps ns cs) ns S) := hs
  have HCC : Hid (IRowW 2 x0 (.slice pc nc cc) nc C) := hc
  have HK : Hid (k0 < P.length ∧ CallsOfIs B (P.getD k0 []) q) := ⟨hk0, HC⟩
  unfold aggRw
  dsimp only
  clear h hok hs hc hk0 HC
  go_enter Tryz.func59, Tryz.ntmps59
  go_wp2_with fail
  have HX : Hid (Below x0.heap.size x0 (x0.alloc (.cells #[.bool a, .int .i64 l, .int .i64 uu, .slice ps ns cs, .slice pc nc cc] 71))) := (Below.refl _ _).alloc (Nat.le_refl _) _
  have KX : Hid (BxN (x0.alloc (.cells #[.bool a, .int .i64 l, .int .i64 uu, .slice ps ns cs, .slice pc nc cc] 71)) x0.heap.size [.bool a, .int .i64 l, .int .i64 uu, .slice ps ns cs, .slice pc nc cc]) := BxN.new x0 [_, _, _, _, _] _
  generalize x0.alloc (.cells #[.bool a, .int .i64 l, .int .i64 uu, .slice ps ns cs, .slice pc nc cc] 71) = X at HX KX ⊢
  refine (ok_impl a l uu X).mono ?_
  rintro e y ⟨rfl, hb⟩
  have HY : Hid (Below x0.heap.size x0 y) := HX.out.trans (hb.mono HX.out.size)
  have KY := KX.out.laterH hb
  clear hb HX KX
  cases h1 : okF a l uu
  · go_wp2_with fail
    go_ret
    exact ⟨ret_bool (by rw [HF.out, h1]; rfl), HY.out⟩
  · have a3 := KY.out.c 3 _ rfl
    have l3 := KY.out.lt
    have HF2 : Hid (F = (sitesF P k0 ns S && callsF q nc C)) := by show _ = _; rw [HF.out, h1]; rfl
    clear HF h1
    go_wp2_with fail
    refine (sitesOk_any y B _ P (HP.out.later HY.out) HOK.out k0 _ ns S (HS.out.later HY.out)).mono ?_
    rintro e z ⟨rfl, hb⟩
    have HZ : Hid (Below x0.heap.size x0 z) := HY.out.trans (hb.mono HY.out.size)
    have KZ := KY.out.laterH hb
    clear hb HY KY a3 l3
    cases h2 : sitesF P k0 ns S
    · go_wp2_with fail
      go_ret
      exact ⟨ret_bool (by rw [HF2.out, h2]; rfl), HZ.out⟩
    · have a4 := KZ.out.c 4 _ rfl
      have l4 := KZ.out.lt
      have HF3 : Hid (F = callsF q nc C) := by show _ = _; rw [HF2.out, h2]; rfl
      clear HF2 h2
      go_wp2_with fail
      refine (callsOk_of z B _ P (HP.out.later HZ.out) HOK.out k0 HK.out.1 _ nc C (HCC.out.later HZ.out) q HK.out.2).mono ?_
      rintro e z2 ⟨rfl, hb⟩
      have HZ2 : Hid (Below x0.heap.size x0 z2) := HZ.out.trans (hb.mono HZ.out.size)
      clear hb a4 l4 KZ
      go_wp2_with fail
      go_ret
      exact ⟨ret_bool (by rw [HF3.out]), HZ2.out⟩

end Go.Proofs.YtlkebkajdlgebaaGreat

/-
  Whether a sum is ok: the contract of sumOk, given one of callsOf.
-/
namespace Go.Proofs.YtlkebkajdlgebaaGreat
open Go.RowKit
set_option linter.unusedVariables false
set_option linter.unusedSimpArgs false

def sumF (P : List (List I4)) (Q : Nat → Int → Bool) (s : Sm) : Bool := inI s.p 0 (P.length - 1) && decide (s.R.length = 3) && allB (fun j => rowF P s.p (Q s.p.toNat) (s.R.getD j rw0)) s.R.length
set_option maxRecDepth 100000 in
set_option maxHeartbeats 8000000 in
theorem sumOk_of (x0 : World) (B : Nat) (v : Value) (P : List (List I4)) (h : ProgAt x0 B v P) (hok : progOkF P = true) (s : Sm) (u : Value) (hs : RowsAt x0 u s.R) (Q : Nat → Int → Bool) (HC : ∀ k, k < P.length → CallsOfIs B (P.getD k []) (Q k)) :
    Calls Tryz.prog 36 #[v, .agg #[.int .i64 s.p, u]] x0 fun e y => e = .returned (.bool (sumF P Q s)) ∧ Below x0.heap.size x0 y := by
  obtain ⟨n0, R⟩ := s
  dsimp only at hs
  obtain ⟨pp, cp, rfl, _⟩ := h.shape
  obtain ⟨ps, cs, rfl, hm⟩ := hs.shape
  unfold maxLen at hm
  have hri : (R.length : Int) ≤ 9223372036854775807 := by omega
  have hl4 := (progOkF_len hok).2
  have hpi : (P.length : Int) ≤ 4 := by omega
  have HF : Hid (sumF P Q ⟨n0, R⟩ = (inI n0 0 (P.length - 1) && decide (R.length = 3) && allB (fun j => rowF P n0 (Q n0.toNat) (R.getD j rw0)) R.length)) := rfl
  generalize sumF P Q ⟨n0, R⟩ = F at HF ⊢
  have HP : Hid (ProgAt x0 B (.slice pp P.length cp) P) := h
  have HOK : Hid (progOkF P = true) := hok
  have HS : Hid (RowsAt x0 (.slice ps R.length cs) R) := hs
  have HCC : Hid (∀ k, k < P.length → CallsOfIs B (P.getD k []) (Q k)) := HC
  clear h hok hs hm HC hl4
  dsimp only
  generalize hpn : P.length = pn at *
  have HPN : Hid (P.length = pn) := hpn
  clear hpn
  generalize hrn : R.length = rn at *
  have HRN : Hid (R.length = rn) := hrn
  clear hrn
  go_enter Tryz.func36, Tryz.ntmps36
  go_wp2_with fail
  have HX : Hid (Below x0.heap.size x0 (x0.alloc (.cells #[.int .i64 n0, .slice ps rn cs] 33))) := (Below.refl _ _).alloc (Nat.le_refl _) _
  have KX : Hid (BxN (x0.alloc (.cells #[.int .i64 n0, .slice ps rn cs] 33)) x0.heap.size [.int .i64 n0, .slice ps rn cs]) := BxN.new x0 [_, _] _
  generalize x0.alloc (.cells #[.int .i64 n0, .slice ps rn cs] 33) = X at HX KX ⊢
  refine (hasProc_any pn 0 n0 X).mono ?_
  rintro e y ⟨rfl, hb⟩
  have HY : Hid (Below x0.heap.size x0 y) := HX.out.trans (hb.mono HX.out.size)
  have KY := KX.out.laterH hb
  clear hb HX KX
  cases h1 : inI n0 0 (pn - 1)
  · go_wp2_with fail
    go_ret
    exact ⟨ret_bool (by rw [HF.out, h1]; rfl), HY.out⟩
  · obtain ⟨k0, rfl, hk0⟩ : ∃ k : Nat, n0 = k ∧ k < pn := by
      simp only [inI, Bool.and_eq_true, decide_eq_true_eq] at h1
      exact ⟨n0.toNat, by omega, by omega⟩
    have a0 := KY.out.c 0 _ rfl
    have a1 := KY.out.c 1 _ rfl
    have l1 := KY.out.lt
    by_cases h3 : rn = 3
    · subst h3
      have HF2 : Hid (F = allB (fun j => rowF P k0 (Q k0) (R.getD j rw0)) 3) := by show _ = _; rw [HF.out, h1]; simp
      clear HF h1
      have HK : Hid (k0 < P.length) := by show _ < _; rw [HPN.out]; exact hk0
      generalize hG : (fun j => rowF P k0 (Q k0) (R.getD j rw0)) = G at HF2
      have HG : Hid (∀ j, rowF P k0 (Q k0) (R.getD j rw0) = G j) := by show ∀ j, _; intro j; rw [← hG]
      clear hG
      go_wp2_with fail
      clear a0 a1 l1
      go_loopw [23] (fun t z => ∃ k : Nat, k ≤ 3 ∧ t = .int .i64 k ∧ Hid (Below x0.heap.size x0 z ∧ BxN z x0.heap.size [.int .i64 k0, .slice ps 3 cs]) ∧ Hid (∀ j, j < k → G j = true)) (fun t _ => 3 - (intOf t).toNat)
      case atStart => exact ⟨0, by omega, rfl, ⟨HY.out, KY.out⟩, fun j hj => by omega⟩
      case round =>
        obtain ⟨k, hk, rfl, HB, hd⟩ := hrel
        have b0 := HB.out.2.c 0 _ rfl
        have lb := HB.out.2.lt
        by_cases hlt : k < 3
        · have hki : (k : Int) < 3 := by omega
          obtain ⟨g, o, rfl, hgx, hr⟩ := RowsAt.row (p := ps) (cap := cs) (R := R) (j := k) (by have := HS.out; rw [HRN.out]; exact this) (by rw [HRN.out]; exact hlt)
          have hgw : g < wr.heap.size := Nat.lt_of_lt_of_le hgx HB.out.1.size
          obtain ⟨c0, c1, c2, ⟨u3, c3, i3⟩, ⟨u4, c4, i4⟩⟩ := hr.later HB.out.1 hgx
          obtain ⟨p3, k3, rfl⟩ := i3.shape
          obtain ⟨p4, k4, rfl⟩ := i4.shape
          have HGk := HG.out k
          generalize R.getD k rw0 = r at *
          have HGK : Hid (rowF P k0 (Q k0) r = G k) := HGk
          have I3 : Hid (IRowW 3 wr (.slice p3 r.ns k3) r.ns r.S) := i3
          have I4 : Hid (IRowW 2 wr (.slice p4 r.nc k4) r.nc r.C) := i4
          clear HGk i3 i4 hr hgx
          go_wp2_with fail
          have HX : Hid (Below x0.heap.size x0 (wr.alloc (.cells #[.bool r.o.1, .int .i64 r.o.2.1, .int .i64 r.o.2.2, .slice p3 r.ns k3, .slice p4 r.nc k4] 71)) ∧ BxN (wr.alloc (.cells #[.bool r.o.1, .int .i64 r.o.2.1, .int .i64 r.o.2.2, .slice p3 r.ns k3, .slice p4 r.nc k4] 71)) x0.heap.size [.int .i64 k0, .slice (some ⟨g, o, none⟩) 3 cs] ∧ Below wr.heap.size wr (wr.alloc (.cells #[.bool r.o.1, .int .i64 r.o.2.1, .int .i64 r.o.2.2, .slice p3 r.ns k3, .slice p4 r.nc k4] 71))) := ⟨HB.out.1.alloc HB.out.1.size _, HB.out.2.later ((Below.refl _ _).alloc (Nat.le_refl _) _), (Below.refl _ _).alloc (Nat.le_refl _) _⟩
          generalize wr.alloc (.cells #[.bool r.o.1, .int .i64 r.o.2.1, .int .i64 r.o.2.2, .slice p3 r.ns k3, .slice p4 r.nc k4] 71) = Z at HX ⊢
          refine (rowOk_of Z B _ P (by have := HP.out.later HX.out.1; rw [← HPN.out] at this; rw [← HPN.out]; exact this) HOK.out k0 HK.out r _ _ (I3.out.later HX.out.2.2) (I4.out.later HX.out.2.2) (Q k0) (HCC.out k0 (by have := HK.out; rw [HPN.out] at this; exact this))).mono ?_
          rintro e z ⟨rfl, hb⟩
          have HZ : Hid (Below x0.heap.size x0 z ∧ BxN z x0.heap.size [.int .i64 k0, .slice (some ⟨g, o, none⟩) 3 cs]) := ⟨HX.out.1.trans (hb.mono HX.out.1.size), HX.out.2.1.later hb⟩
          clear hb HX
          rw [HGK.out]
          cases hg2 : G k
          · have HNO : Hid (allB G 3 = false) := allB_no hlt hg2
            clear hg2
            go_wp2_with fail
            go_ret
            exact ⟨ret_bool (by rw [HF2.out, HNO.out]), HZ.out.1⟩
          · have HGT : Hid (G k = true) := hg2
            clear hg2
            go_wp2_with fail
            go_roundw
            case rel =>
              refine ⟨k + 1, by omega, by go_num, HZ, fun j hj => ?_⟩
              rcases (by omega : j < k ∨ j = k) with hjk | rfl
              · exact hd.out j hjk
              · exact HGT.out
            case measure => simp [intOf]; omega
        · obtain rfl : k = 3 := by omega
          have HE : Hid (allB G 3 = true) := allB_yes hd.out
          go_wp2_with fail
          go_ret
          exact ⟨ret_bool (by rw [HF2.out, HE.out]), HB.out.1⟩
    · have h3i : ((rn : Int) != 3) = true := by
        rw [bne_iff_ne]; omega
      have HNO : Hid (F = false) := by show _ = _; rw [HF.out]; simp [h3]
      clear HF
      go_wp2_with fail
      go_ret
      exact ⟨ret_bool (by rw [HNO.out]), HY.out⟩

end Go.Proofs.YtlkebkajdlgebaaGreat
