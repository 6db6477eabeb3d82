/-
  The laws' own helpers on rows of sites: measured, copied, the same, marked, held.
-/
import Derived.Test.YtifpijindmdboaaIRow
namespace Go.Proofs.Ytifpijindmdboaa
open Go.RowKit
set_option linter.unusedVariables false
set_option linter.unusedSimpArgs false

theorem eqSite_at (n0 : Int) (n1 : Int) (n2 : Int) (w : World) : Calls Try.prog 55 #[.agg #[.int .i64 n0, .int .i64 n1, .int .i64 n2], .agg #[.int .i64 n0, .int .i64 n1, .int .i64 n2]] w fun e w' => e = .returned (.bool true) ∧ Below w.heap.size w w' := by
  go_enter Try.func55, Try.ntmps55
  go_wp2
  go_ret
  exact ⟨rfl, by go_grown⟩
set_option maxHeartbeats 400000 in
theorem toSite_at (n0 : Int) (n1 : Int) (n2 : Int) (w : World) : Calls Try.prog 71 #[.agg #[.int .i64 n0, .int .i64 n1, .int .i64 n2]] w fun e w' => e = .returned (.agg #[.int .i64 n0, .int .i64 n1, .int .i64 n2]) ∧ Below w.heap.size w w' := by
  go_enter Try.func71, Try.ntmps71
  go_wp2
  go_returns
  exact ⟨rfl, by go_grown⟩
theorem infoSite : (Try.prog.info? 54).map (fun i => (i.zero, i.size, i.bytes)) = some (some (.agg #[.int .i64 (0), .int .i64 (0), .int .i64 (0)]), 3, 24) := by kernel_rfl
theorem keepC3 {w y : World} {g o g' o' k : Nat} {n0 n1 n2 : Int} (h : (fun z => z.cell? ⟨g, o + k * 3, none⟩ = some (.int .i64 n0) ∧ z.cell? ⟨g, o + k * 3 + 1, none⟩ = some (.int .i64 n1) ∧ z.cell? ⟨g, o + k * 3 + 2, none⟩ = some (.int .i64 n2) ∧ z.cell? ⟨g', o' + k * 3, none⟩ = some (.int .i64 n0) ∧ z.cell? ⟨g', o' + k * 3 + 1, none⟩ = some (.int .i64 n1) ∧ z.cell? ⟨g', o' + k * 3 + 2, none⟩ = some (.int .i64 n2)) w) (hb : Below w.heap.size w y) (hg : g < w.heap.size) (hg' : g' < w.heap.size) : (fun z => z.cell? ⟨g, o + k * 3, none⟩ = some (.int .i64 n0) ∧ z.cell? ⟨g, o + k * 3 + 1, none⟩ = some (.int .i64 n1) ∧ z.cell? ⟨g, o + k * 3 + 2, none⟩ = some (.int .i64 n2) ∧ z.cell? ⟨g', o' + k * 3, none⟩ = some (.int .i64 n0) ∧ z.cell? ⟨g', o' + k * 3 + 1, none⟩ = some (.int .i64 n1) ∧ z.cell? ⟨g', o' + k * 3 + 2, none⟩ = some (.int .i64 n2)) y := by
  obtain ⟨d0, d1, d2, e0, e1, e2⟩ := h
  exact ⟨(hb.cell (p := ⟨g, _, none⟩) hg).trans d0, (hb.cell (p := ⟨g, _, none⟩) hg).trans d1, (hb.cell (p := ⟨g, _, none⟩) hg).trans d2, (hb.cell (p := ⟨g', _, none⟩) hg').trans e0, (hb.cell (p := ⟨g', _, none⟩) hg').trans e1, (hb.cell (p := ⟨g', _, none⟩) hg').trans e2⟩
set_option maxHeartbeats 1000000 in
theorem eqSiteS_any (x : World) (z z' : Bool) (B E C D : Nat) (v u : Value) (n : Nat) (N : Nat → Int) (h : IRow 3 z x B E v n N) (h' : IRow 3 z' x C D u n N) :
    Calls Try.prog 20 #[v, u] x fun e y => e = .returned (.bool true) ∧ Below x.heap.size x y := by
  obtain ⟨p, cap, rfl, hm, hc⟩ := h
  obtain ⟨p', cap', rfl, _, hc'⟩ := h'
  unfold maxLen at hm
  have hni : (n : Int) ≤ 9223372036854775807 := by omega
  clear hm
  go_enter Try.func20, Try.ntmps20
  go_wp2_with fail
  go_loopw [5] (fun t y => ∃ k : Nat, k ≤ n ∧ t = .int .i64 k ∧ Below x.heap.size x y) (fun t _ => n - (intOf t).toNat)
  case atStart => exact ⟨0, by omega, rfl, Below.refl _ _⟩
  case round =>
    obtain ⟨k, hk, rfl, hB⟩ := hrel
    by_cases hlt : k < n
    · rcases hc with h0 | ⟨g, o, rfl, hBg, hgE, hEx, _, hins⟩
      · omega
      rcases hc' with h0 | ⟨g', o', rfl, hBg', hgE', hEx', _, hins'⟩
      · omega
      have hgx : g < x.heap.size := by omega
      have hgx' : g' < x.heap.size := by omega
      have hki : (k : Int) < (n : Int) := by omega
      have d0 := (hB.cell (p := ⟨g, o + (k * 3), none⟩) hgx).trans (hins (k * 3) (by omega))
      have d1 := (hB.cell (p := ⟨g, o + (k * 3 + 1), none⟩) hgx).trans (hins (k * 3 + 1) (by omega))
      have d2 := (hB.cell (p := ⟨g, o + (k * 3 + 2), none⟩) hgx).trans (hins (k * 3 + 2) (by omega))
      have e0 := (hB.cell (p := ⟨g', o' + (k * 3), none⟩) hgx').trans (hins' (k * 3) (by omega))
      have e1 := (hB.cell (p := ⟨g', o' + (k * 3 + 1), none⟩) hgx').trans (hins' (k * 3 + 1) (by omega))
      have e2 := (hB.cell (p := ⟨g', o' + (k * 3 + 2), none⟩) hgx').trans (hins' (k * 3 + 2) (by omega))
      rw [← Nat.add_assoc] at d1 e1 d2 e2
      clear hins hins'
      generalize N (k * 3) = n0 at *
      generalize N (k * 3 + 1) = n1 at *
      generalize N (k * 3 + 2) = n2 at *
      have hgw : g < wr.heap.size := Nat.lt_of_lt_of_le hgx hB.size
      have hgw' : g' < wr.heap.size := Nat.lt_of_lt_of_le hgx' hB.size
      go_wp2_with fail
      go_region_held3 (fun z => z.cell? ⟨g, o + k * 3, none⟩ = some (.int .i64 n0) ∧ z.cell? ⟨g, o + k * 3 + 1, none⟩ = some (.int .i64 n1) ∧ z.cell? ⟨g, o + k * 3 + 2, none⟩ = some (.int .i64 n2) ∧ z.cell? ⟨g', o' + k * 3, none⟩ = some (.int .i64 n0) ∧ z.cell? ⟨g', o' + k * 3 + 1, none⟩ = some (.int .i64 n1) ∧ z.cell? ⟨g', o' + k * 3 + 2, none⟩ = some (.int .i64 n2)) (first | (with_reducible assumption) | exact ⟨d0, d1, d2, e0, e1, e2⟩ | fail) ((go_at_call 55; refine (eqSite_at n0 n1 n2 _).mono ?_; rintro e w2 ⟨rfl, hb2⟩; have hS2 := keepC3 (w := wr.drew) (o := o) (o' := o') (k := k) (n0 := n0) (n1 := n1) (n2 := n2) ⟨d0, d1, d2, e0, e1, e2⟩ hb2 hgw hgw'))
      have hB2 : Below x.heap.size x w2 := hB.trans ((Below.drew (Below.refl _ _)).trans (hb2.mono (by simp)) |>.mono hB.size)
      go_wp2_with fail
      go_roundw
      case rel => exact ⟨k + 1, by omega, by go_num, hB2⟩
      case measure => simp [intOf]; omega
    · obtain rfl : k = n := by omega
      have hki : ¬ (k : Int) < (k : Int) := by omega
      go_wp2_with fail
      go_ret
      exact ⟨rfl, hB⟩

set_option maxHeartbeats 1000000 in
theorem markSiteS_all (x : World) (B E : Nat) (v : Value) (n : Nat) (N : Nat → Int) (k0 : Int) (h : IRow 3 true x B E v n N) (hn : n ≤ 1048576) (h0 : 0 ≤ k0) (h1 : k0 ≤ 1000000000000000) :
    Calls Try.prog 23 #[v, .int .i64 k0] x fun e y => e = .returned (.int .i64 (k0 + 3 * n)) ∧ IRow 3 true y B E v n (fun j => k0 + (j : Int)) ∧ Within B E x y := by
  obtain ⟨p, cap, rfl, hm, hc⟩ := h
  have hni : (n : Int) ≤ 1048576 := by omega
  have HM : Hid (n ≤ maxLen) := hm
  clear hn hm
  have HC : Hid (n = 0 ∨ ∃ g o, p = some ⟨g, o, none⟩ ∧ B ≤ g ∧ g < E ∧ E ≤ x.heap.size ∧ (true = true → ∀ k, x.frozen? ⟨g, k, none⟩ = false) ∧ ∀ j, j < n * 3 → x.cell? ⟨g, o + j, none⟩ = some (.int .i64 (N j))) := hc
  clear hc
  go_enter Try.func23, Try.ntmps23
  go_wp2_with fail
  go_loopw [1, 5] (fun m t y => ∃ k : Nat, k ≤ n ∧ t = .int .i64 k ∧ m = .int .i64 (k0 + 3 * k) ∧ Within B E x y ∧ (∀ g o, p = some ⟨g, o, none⟩ → (∀ j, j < n * 3 → ∃ v, y.cell? ⟨g, o + j, none⟩ = some v) ∧ (∀ j, j < k * 3 → y.cell? ⟨g, o + j, none⟩ = some (.int .i64 (k0 + (j : Int)))))) (fun _ t _ => n - (intOf t).toNat)
  case atStart =>
    refine ⟨0, by omega, rfl, by simp, Within.refl _ _ _, ?_⟩
    intro g o hp
    refine ⟨?_, fun j hj => by omega⟩
    rcases HC.out with h0 | ⟨g', o', hp', _, _, _, _, hs⟩
    · intro j hj; omega
    · rw [hp] at hp'
      injection hp' with hp'
      injection hp' with e1 e2
      subst e1 e2
      intro j hj
      exact ⟨_, hs j hj⟩
  case round =>
    obtain ⟨k, hk, rfl, rfl, hW, hp⟩ := hrel
    by_cases hlt : k < n
    · rcases HC.out with hz | ⟨g, o, rfl, hBg, hgE, hEx, hf, _⟩
      · omega
      obtain ⟨hcell, hdone⟩ := hp g o rfl
      have hki : (k : Int) < (n : Int) := by omega
      obtain ⟨u0, e0⟩ := hcell (k * 3) (by omega)
      obtain ⟨u1, e1⟩ := hcell (k * 3 + 1) (by omega)
      obtain ⟨u2, e2⟩ := hcell (k * 3 + 2) (by omega)
      have f0 : wr.frozen? ⟨g, o + k * 3, none⟩ = false := (hW.frozen _ _).trans (hf (by trivial) _)
      have f1 : wr.frozen? ⟨g, o + k * 3 + 1, none⟩ = false := (hW.frozen _ _).trans (hf (by trivial) _)
      have f2 : wr.frozen? ⟨g, o + k * 3 + 2, none⟩ = false := (hW.frozen _ _).trans (hf (by trivial) _)
      rw [← Nat.add_assoc] at e1 e2
      have hkb : 0 ≤ k0 + 3 * (k : Int) ∧ k0 + 3 * (k : Int) ≤ 2000000000000000 := by omega
      generalize hK : k0 + 3 * (k : Int) = K at *
      have HK : Hid (k0 + 3 * (k : Int) = K) := hK
      have hK0 := hkb.1
      have hK1 := hkb.2
      have HP : Hid ((∀ j, j < n * 3 → ∃ v, wr.cell? ⟨g, o + j, none⟩ = some v) ∧ (∀ j, j < k * 3 → wr.cell? ⟨g, o + j, none⟩ = some (.int .i64 (k0 + (j : Int))))) := ⟨hcell, hdone⟩
      clear hcell hdone hp hf hK hkb
      go_wp2_with fail
      go_roundw
      case rel =>
        refine ⟨k + 1, by omega, by go_num, ?_, ?_⟩
        · rw [← HK.out]; congr 1; omega
        · change Within B E x (set3 wr g (o + k * 3) _ _ _) ∧ ∀ g' o', _ → (∀ j, j < n * 3 → ∃ v, (set3 wr g (o + k * 3) _ _ _).cell? ⟨g', o' + j, none⟩ = some v) ∧ ∀ j, j < (k + 1) * 3 → (set3 wr g (o + k * 3) _ _ _).cell? ⟨g', o' + j, none⟩ = some (.int .i64 (k0 + (j : Int)))
          refine ⟨hW.set3 hBg hgE _ _ _, ?_⟩
          intro g' o' hp
          injection hp with hp
          injection hp with e3 e4
          subst e3 e4
          refine ⟨fun j hj => set3_some _ _ _ _ _ _ _ (HP.out.1 j hj), fun j hj => ?_⟩
          by_cases hjk : j < k * 3
          · exact (set3_miss _ _ _ _ _ _ _ _ (by omega)).trans (HP.out.2 j hjk)
          · have hh := set3_hits wr g (o + k * 3) (.int .i64 (K)) (.int .i64 (K + 1)) (.int .i64 (K + 1 + 1)) ⟨_, e0⟩ ⟨_, e1⟩ ⟨_, e2⟩
            have hkk := HK.out
            rcases (by omega : j = k * 3 ∨ j = k * 3 + 1 ∨ j = k * 3 + 2) with e | e | e
            · subst e; rw [show k0 + (((k * 3 : Nat)) : Int) = K by omega]; exact hh.1
            · subst e; rw [← Nat.add_assoc]; rw [show k0 + (((k * 3 + 1 : Nat)) : Int) = K + 1 by omega]; exact hh.2.1
            · subst e; rw [← Nat.add_assoc]; rw [show k0 + (((k * 3 + 2 : Nat)) : Int) = K + 1 + 1 by omega]; exact hh.2.2
      case measure => simp [intOf]; omega
    · obtain rfl : k = n := by omega
      have hki : ¬ (k : Int) < (k : Int) := by omega
      go_wp2_with fail
      go_ret
      refine ⟨rfl, ⟨p, cap, rfl, HM.out, ?_⟩, hW⟩
      rcases HC.out with hz | ⟨g, o, rfl, hBg, hgE, hEx, hf, _⟩
      · exact .inl hz
      · exact .inr ⟨g, o, rfl, hBg, hgE, by rw [← hW.sz]; exact hEx, fun _ j => (hW.frozen _ _).trans (hf (by trivial) j), fun j hj => (hp g o rfl).2 j hj⟩

set_option maxHeartbeats 1000000 in
theorem heldSiteS_all (x : World) (z : Bool) (B E : Nat) (v : Value) (n : Nat) (k0 : Int) (h : IRow 3 z x B E v n (fun j => k0 + (j : Int))) (hn : n ≤ 1048576) (h0 : 0 ≤ k0) (h1 : k0 ≤ 1000000000000000) :
    Calls Try.prog 24 #[v, .int .i64 k0] x fun e y => e = .returned (.int .i64 (k0 + 3 * n)) ∧ y = x := by
  obtain ⟨p, cap, rfl, hm, hc⟩ := h
  have hni : (n : Int) ≤ 1048576 := by omega
  have HC : Hid (n = 0 ∨ ∃ g o, p = some ⟨g, o, none⟩ ∧ B ≤ g ∧ g < E ∧ E ≤ x.heap.size ∧ (z = true → ∀ k, x.frozen? ⟨g, k, none⟩ = false) ∧ ∀ j, j < n * 3 → x.cell? ⟨g, o + j, none⟩ = some (.int .i64 (k0 + (j : Int)))) := hc
  clear hc hm hn
  go_enter Try.func24, Try.ntmps24
  go_wp2_with fail
  go_loopw [1, 5] (fun m t y => ∃ k : Nat, k ≤ n ∧ t = .int .i64 k ∧ m = .int .i64 (k0 + 3 * k) ∧ y = x) (fun _ t _ => n - (intOf t).toNat)
  case atStart => exact ⟨0, by omega, rfl, by simp, rfl⟩
  case round =>
    obtain ⟨k, hk, rfl, rfl, rfl⟩ := hrel
    by_cases hlt : k < n
    · rcases HC.out with hz | ⟨g, o, rfl, hBg, hgE, hEx, hf, hs⟩
      · omega
      have hki : (k : Int) < (n : Int) := by omega
      have hkb : 0 ≤ k0 + 3 * (k : Int) ∧ k0 + 3 * (k : Int) ≤ 2000000000000000 := by omega
      have hsk := fun j hj => hs j hj
      generalize hK : k0 + 3 * (k : Int) = K at *
      have HK : Hid (k0 + 3 * (k : Int) = K) := hK
      have hK0 := hkb.1
      have hK1 := hkb.2
      have q0 : wr.cell? ⟨g, o + k * 3, none⟩ = some (.int .i64 (K)) := by have := hsk (k * 3) (by omega); rw [show k0 + (((k * 3 : Nat)) : Int) = K by omega] at this; exact this
      have q1 : wr.cell? ⟨g, o + k * 3 + 1, none⟩ = some (.int .i64 (K + 1)) := by have := hsk (k * 3 + 1) (by omega); rw [show k0 + (((k * 3 + 1 : Nat)) : Int) = K + 1 by omega] at this; rw [← Nat.add_assoc] at this; exact this
      have q2 : wr.cell? ⟨g, o + k * 3 + 2, none⟩ = some (.int .i64 (K + 1 + 1)) := by have := hsk (k * 3 + 2) (by omega); rw [show k0 + (((k * 3 + 2 : Nat)) : Int) = K + 1 + 1 by omega] at this; rw [← Nat.add_assoc] at this; exact this
      clear hs hf hK hkb hsk
      go_wp2_with fail
      go_roundw
      case rel =>
        refine ⟨k + 1, by omega, by go_num, ?_, trivial⟩
        rw [← HK.out]; congr 1; omega
      case measure => simp [intOf]; omega
    · obtain rfl : k = n := by omega
      have hki : ¬ (k : Int) < (k : Int) := by omega
      go_wp2_with fail
      go_ret
      exact ⟨rfl, rfl⟩

end Go.Proofs.Ytifpijindmdboaa
