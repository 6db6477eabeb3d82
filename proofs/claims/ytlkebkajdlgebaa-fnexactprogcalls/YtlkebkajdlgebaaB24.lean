import Derived.Test.YtlkebkajdlgebaaB23
import Derived.Test.YtlkebkajdlgebaaB21
import Derived.Test.YtlkebkajdlgebaaB20
import Derived.Test.YtlkebkajdlgebaaB3
/-
  Rows of numbers, wherever they lie: marked (markIntS), held (heldIntS).
-/
namespace Go.Proofs.Ytlkebkajdlgebaa
open Go.RowKit
set_option linter.unusedVariables false
set_option linter.unusedSimpArgs false

/-- n numbers from k on -/
def fromL (k : Int) (n : Nat) : List Int := (List.range n).map (fun j : Nat => k + (j : Int))
theorem fromL_len (k : Int) (n : Nat) : (fromL k n).length = n := by simp [fromL]
theorem fromL_get (k : Int) (n j : Nat) (h : j < n) : (fromL k n).getD j 0 = k + j := by simp [fromL, List.getD_eq_getElem?_getD, List.getElem?_map, List.getElem?_range h]
theorem IntsAt.within {z : Bool} {x y : World} {B E C D : Nat} {v : Value} {L : List Int} (h : IntsAt z x C D v L) (hw : Within B E x y) (hd : D ≤ B ∨ E ≤ C) : IntsAt z y C D v L :=
  h.stay (by rw [hw.sz]; exact Nat.le_refl _) fun g o h1 h2 => ⟨hw.cell _ _ (by omega), hw.frozen _ _⟩
theorem Owns.ints {x : World} {B : Nat} {v : Value} {L : List Int} (h : Owns x B v L) : IntsAt true x B x.heap.size v L := by
  rcases h.2 with ⟨e, hn⟩ | ⟨g, cap, cur, e, hb, hg, hnc, hcm, hcs, ht⟩
  · exact ⟨none, 0, by rw [e, hn], by unfold maxLen; omega, .inl hn⟩
  · subst e
    refine ⟨_, cap, rfl, by omega, .inr ⟨g, 0, rfl, hb, (Array.getElem?_eq_some_iff.1 hg).1, Nat.le_refl _, fun _ k => World.ownsRow.frozenAt h k, fun j hj => ?_⟩⟩
    rw [Nat.zero_add, World.ownsRow.cellAt h j (by omega)]
    simp [List.getElem?_eq_getElem hj, List.getD]

set_option maxHeartbeats 1000000 in
theorem heldIntsAt (x : World) (B E : Nat) (v : Value) (n : Nat) (k : Int) (h : IntsAt true x B E v (fromL k n)) (k0 : 0 ≤ k) (k1 : k ≤ 1000000000) (hL : n ≤ 1000000000) :
    Calls Try.prog 13 #[v, .int .i64 k] x fun e y => e = .returned (.int .i64 (k + n)) ∧ y = x := by
  obtain ⟨p, cap, rfl, hm, hl⟩ := h
  rw [fromL_len] at hl ⊢
  clear hm
  rcases hl with h0 | ⟨g, o, rfl, hg, hgx, hE, hf, hc⟩
  · subst h0
    go_enter Try.func13, Try.ntmps13
    go_wp2
    go_rounds 1
    go_ret
    exact ⟨ret_int (by simp), rfl⟩
  · have H1 : Hid (∀ j, j < n → x.cell? ⟨g, o + j, none⟩ = some (.int .i64 (k + j))) := fun j hj => by rw [← fromL_get k n j hj]; exact hc j hj
    have hgx2 : g < x.heap.size := by omega
    clear hc hf
    go_enter Try.func13, Try.ntmps13
    go_wp2
    go_loop [1, 5] (fun m i => ∃ j : Nat, j ≤ n ∧ i = .int .i64 j ∧ m = .int .i64 (k + j)) (fun _ i => n - (RowKit.intOf i).toNat)
    case atStart => exact ⟨0, by omega, rfl, by simp⟩
    case round =>
      obtain ⟨j, hj, rfl, rfl⟩ := hrel
      by_cases hlt : j < n
      · have c1 := H1.out j hlt
        have hi : (j : Int) < (n : Int) := by omega
        go_wp2
        go_round
        case rel => exact ⟨j + 1, by omega, by go_num, by go_num⟩
        case measure => simp [RowKit.intOf]; omega
      · obtain rfl : j = n := by omega
        go_wp2
        go_ret
        exact ⟨rfl, rfl⟩

set_option maxHeartbeats 2000000 in
theorem markIntsAt (x : World) (B E : Nat) (v : Value) (L : List Int) (k : Int) (h : IntsAt true x B E v L) (k0 : 0 ≤ k) (k1 : k ≤ 1000000000) (hL : L.length ≤ 1000000000) :
    Calls Try.prog 12 #[v, .int .i64 k] x fun e y => e = .returned (.int .i64 (k + L.length)) ∧ IntsAt true y B E v (fromL k L.length) ∧ Within B E x y := by
  obtain ⟨p, cap, rfl, hm, hl⟩ := h
  have HM : Hid (L.length ≤ maxLen) := hm
  clear hm
  rcases hl with h0 | ⟨g, o, rfl, hg, hgx, hE, hf, hc⟩
  · rw [h0]
    go_enter Try.func12, Try.ntmps12
    go_wp2
    go_rounds 1
    go_ret
    exact ⟨ret_int (by simp), (show IntsAt true x B E _ [] from IntsAt.nil), Within.refl _ _ _⟩
  · have H1 : Hid (∀ j, j < L.length → ∃ z, x.cell? ⟨g, o + j, none⟩ = some (.int .i64 z)) := fun j hj => ⟨_, hc j hj⟩
    have H2 : Hid (∀ j, x.frozen? ⟨g, j, none⟩ = false) := fun j => hf rfl j
    clear hc hf
    generalize hn : L.length = n at *
    clear hn
    go_enter Try.func12, Try.ntmps12
    go_wp2
    go_loopw [1, 5] (fun m i y => ∃ j : Nat, j ≤ n ∧ i = .int .i64 j ∧ m = .int .i64 (k + j) ∧ Hid ((∀ t, t < j → y.cell? ⟨g, o + t, none⟩ = some (.int .i64 (k + t))) ∧ (∀ t, t < n → ∃ z, y.cell? ⟨g, o + t, none⟩ = some (.int .i64 z)) ∧ Within B E x y)) (fun _ i _ => n - (RowKit.intOf i).toNat)
    case atStart => exact ⟨0, by omega, rfl, by simp, fun t ht => by omega, H1.out, Within.refl _ _ _⟩
    case round =>
      obtain ⟨j, hj, rfl, rfl, HR⟩ := hrel
      by_cases hlt : j < n
      · have hi : (j : Int) < (n : Int) := by omega
        obtain ⟨z, c1⟩ := HR.out.2.1 j hlt
        have c2 : wr.frozen? ⟨g, o + j, none⟩ = false := (HR.out.2.2.frozen _ _).trans (H2.out _)
        have c3 : g < wr.heap.size := by rw [← HR.out.2.2.sz]; omega
        have C4 : Hid (wr.cell? ⟨g, o + j, none⟩ = some (.int .i64 z)) := c1
        go_wp2
        have HZ : Hid ((∀ t, t < j + 1 → (wr.setCell ⟨g, o + j, none⟩ (.int .i64 (k + j))).cell? ⟨g, o + t, none⟩ = some (.int .i64 (k + t))) ∧ (∀ t, t < n → ∃ z, (wr.setCell ⟨g, o + j, none⟩ (.int .i64 (k + j))).cell? ⟨g, o + t, none⟩ = some (.int .i64 z)) ∧ Within B E x (wr.setCell ⟨g, o + j, none⟩ (.int .i64 (k + j)))) := by
          refine ⟨fun t ht => ?_, fun t ht => ?_, ?_⟩
          · by_cases e : t = j
            · subst e; exact sc_same C4.out
            · exact (sc_other (by intro e3; injection e3; omega)).trans (HR.out.1 t (by omega))
          · by_cases e : t = j
            · subst e; exact ⟨_, sc_same C4.out⟩
            · obtain ⟨z2, hz2⟩ := HR.out.2.1 t ht
              exact ⟨z2, (sc_other (by intro e3; injection e3; omega)).trans hz2⟩
          · have hw := HR.out.2.2
            exact ⟨by simpa using hw.sz, hw.below.setCell hg _, fun b q hb => (sc_other (by intro e3; injection e3; omega)).trans (hw.cell b q hb), fun b q => (World.frozen?_setCell _ _ _ _).trans (hw.frozen b q)⟩
        go_roundw
        case rel => exact ⟨j + 1, by omega, by go_num, by go_num, HZ⟩
        case measure => simp [RowKit.intOf]; omega
      · obtain rfl : j = n := by omega
        have hi : ¬ (j : Int) < (j : Int) := by omega
        go_wp2
        go_ret
        have hw := HR.out.2.2
        refine ⟨rfl, ⟨some ⟨g, o, none⟩, cap, by rw [fromL_len], by rw [fromL_len]; exact HM.out, .inr ⟨g, o, rfl, hg, hgx, by rw [← hw.sz]; exact hE, fun _ q => (hw.frozen _ _).trans (H2.out q), fun t ht => ?_⟩⟩, hw⟩
        rw [fromL_len] at ht
        rw [fromL_get k j t ht]
        exact HR.out.1 t ht
end Go.Proofs.Ytlkebkajdlgebaa

/-
  The laws' marks on a program: markProcS writes numbers into the instructions of a copy, and into nothing else.
-/
namespace Go.Proofs.Ytlkebkajdlgebaa
open Go.RowKit
set_option linter.unusedVariables false
set_option linter.unusedSimpArgs false

/-- cells that are there stay there -/
def Keeps (x y : World) : Prop := ∀ b o, (∃ v, x.cell? ⟨b, o, none⟩ = some v) → ∃ v, y.cell? ⟨b, o, none⟩ = some v
theorem Keeps.refl (x : World) : Keeps x x := fun _ _ h => h
theorem Keeps.trans {x y z : World} (h : Keeps x y) (g : Keeps y z) : Keeps x z := fun b o q => g b o (h b o q)
theorem Keeps.set4 {x y : World} (h : Keeps x y) (g o : Nat) (v0 v1 v2 v3 : Value) : Keeps x (set4 y g o v0 v1 v2 v3) := fun b p q => set4_some _ _ _ _ _ _ _ _ (h b p q)
theorem Within.set4 {B E : Nat} {x y : World} (h : Within B E x y) {g o : Nat} (h0 : B ≤ g) (h1 : g < E) (v0 v1 v2 v3 : Value) : Within B E x (set4 y g o v0 v1 v2 v3) :=
  ⟨by rw [set4_size]; exact h.sz, set4_below h.below h0, fun b p hb => (set4_miss _ _ _ _ _ _ _ _ _ (by omega)).trans (h.cell b p hb), fun b p => (set4_frozen _ _ _ _ _ _ _ _).trans (h.frozen b p)⟩
theorem Within.trans {B E : Nat} {x y z : World} (h : Within B E x y) (g : Within B E y z) : Within B E x z :=
  ⟨h.sz.trans g.sz, h.below.trans g.below, fun b o q => (g.cell b o q).trans (h.cell b o q), fun b o => (g.frozen b o).trans (h.frozen b o)⟩
theorem Within.wide {B E C D : Nat} {x y : World} (h : Within B E x y) (hc : C ≤ B) (hd : E ≤ D) : Within C D x y :=
  ⟨h.sz, h.below.mono hc, fun b o q => h.cell b o (by omega), h.frozen⟩

set_option maxHeartbeats 1000000 in
theorem markInsS_any (x : World) (B E : Nat) (u : Value) (h : CFree x B E u) (k0 : Int) (h0 : 0 ≤ k0) (h1 : k0 ≤ 100000000000000) (hn : ∀ p n cap, u = .slice p n cap → n ≤ 1048576) :
    Calls Try.prog 25 #[u, .int .i64 k0] x fun e y => ∃ K : Int, e = .returned (.int .i64 K) ∧ k0 ≤ K ∧ K ≤ k0 + 4194304 ∧ Within B E x y ∧ Keeps x y := by
  obtain ⟨g, o, n, cap, rfl, hB, hE, hx, hf, hc⟩ := h
  have hn' := hn _ _ _ rfl
  have hni : (n : Int) ≤ 1048576 := by omega
  have HF : Hid (∀ k, x.frozen? ⟨g, k, none⟩ = false) := hf
  have HC : Hid (∀ j, j < n * 4 → ∃ v, x.cell? ⟨g, o + j, none⟩ = some v) := hc
  clear hf hc hn hn'
  go_enter Try.func25, Try.ntmps25
  go_wp2_with fail
  go_loopw [1, 5] (fun m t y => ∃ k : Nat, k ≤ n ∧ t = .int .i64 k ∧ m = .int .i64 (k0 + 4 * k) ∧ Hid (Within B E x y ∧ Keeps x y)) (fun _ t _ => n - (intOf t).toNat)
  case atStart => exact ⟨0, by omega, rfl, by simp, Within.refl _ _ _, Keeps.refl _⟩
  case round =>
    obtain ⟨k, hk, rfl, rfl, HW⟩ := hrel
    by_cases hlt : k < n
    · have hki : (k : Int) < (n : Int) := by omega
      obtain ⟨u0, e0⟩ := HW.out.2 _ _ (HC.out (k * 4) (by omega))
      obtain ⟨u1, e1⟩ := HW.out.2 _ _ (HC.out (k * 4 + 1) (by omega))
      obtain ⟨u2, e2⟩ := HW.out.2 _ _ (HC.out (k * 4 + 2) (by omega))
      obtain ⟨u3, e3⟩ := HW.out.2 _ _ (HC.out (k * 4 + 3) (by omega))
      have f0 : wr.frozen? ⟨g, o + k * 4, none⟩ = false := (HW.out.1.frozen _ _).trans (HF.out _)
      have f1 : wr.frozen? ⟨g, o + k * 4 + 1, none⟩ = false := (HW.out.1.frozen _ _).trans (HF.out _)
      have f2 : wr.frozen? ⟨g, o + k * 4 + 2, none⟩ = false := (HW.out.1.frozen _ _).trans (HF.out _)
      have f3 : wr.frozen? ⟨g, o + k * 4 + 3, none⟩ = false := (HW.out.1.frozen _ _).trans (HF.out _)
      rw [← Nat.add_assoc] at e1 e2 e3
      have hkb : 0 ≤ k0 + 4 * (k : Int) ∧ k0 + 4 * (k : Int) ≤ 2000000000000000 := by omega
      generalize hK : k0 + 4 * (k : Int) = K at *
      have HK : Hid (k0 + 4 * (k : Int) = K) := hK
      have hK0 := hkb.1
      have hK1 := hkb.2
      clear hK hkb
      go_wp2_with fail
      go_roundw
      case rel =>
        refine ⟨k + 1, by omega, by go_num, ?_, ?_⟩
        · rw [← HK.out]; congr 1; omega
        · exact ⟨HW.out.1.set4 (o := o + k * 4) hB hE _ _ _ _, HW.out.2.set4 g (o + k * 4) _ _ _ _⟩
      case measure => simp [intOf]; omega
    · obtain rfl : k = n := by omega
      have hki : ¬ (k : Int) < (k : Int) := by omega
      go_wp2_with fail
      go_ret
      exact ⟨_, rfl, by omega, by omega, HW.out.1, HW.out.2⟩

set_option maxHeartbeats 1000000 in
theorem markProcS_any (x : World) (B E : Nat) (v : Value) (P : List (List I4)) (h : FreeP x B E v P) (hP : P.length ≤ 1048576) (hall : ∀ j, j < P.length → (P.getD j []).length ≤ 1048576) (k0 : Int) (h0 : 0 ≤ k0) (h1 : k0 ≤ 1000) :
    Calls Try.prog 11 #[v, .int .i64 k0] x fun e y => ∃ K : Int, e = .returned (.int .i64 K) ∧ 0 ≤ K ∧ K ≤ 10000000000000 ∧ Within B E x y := by
  obtain ⟨g, cap, rfl, hB, hE, hx, hj⟩ := h
  generalize hL : P.length = n at *
  have hni : (n : Int) ≤ 1048576 := by omega
  have HJ : Hid (∀ j, j < n → ∃ p cap, x.cell? ⟨g, j, none⟩ = some (.slice p (P.getD j []).length cap) ∧ (P.getD j []).length ≤ 1048576 ∧ CFree x (g + 1) E (.slice p (P.getD j []).length cap)) := fun j hl => by
    obtain ⟨u, hu, hc, hf⟩ := hj j hl
    obtain ⟨p, cap, rfl, _⟩ := hc
    exact ⟨p, cap, hu, hall j hl, hf⟩
  clear hj hall hL
  go_enter Try.func11, Try.ntmps11
  go_wp2_with fail
  go_loopw [1, 5] (fun m t y => ∃ (k : Nat) (K : Int), k ≤ n ∧ t = .int .i64 k ∧ m = .int .i64 K ∧ 0 ≤ K ∧ K ≤ 1000 + 4194304 * k ∧ Hid (Within (g + 1) E x y ∧ Keeps x y)) (fun _ t _ => n - (intOf t).toNat)
  case atStart => exact ⟨0, k0, by omega, rfl, rfl, h0, by omega, Within.refl _ _ _, Keeps.refl _⟩
  case round =>
    obtain ⟨k, K, hk, rfl, rfl, hK0, hK1, HW⟩ := hrel
    by_cases hlt : k < n
    · have hki : (k : Int) < (n : Int) := by omega
      obtain ⟨p, c, hu, hle, hf⟩ := HJ.out k hlt
      have d0 : wr.cell? ⟨g, k, none⟩ = some (.slice p (P.getD k []).length c) := (HW.out.1.cell g k (by omega)).trans hu
      have hfw : CFree wr (g + 1) E (.slice p (P.getD k []).length c) := by
        obtain ⟨g2, o2, n2, c2, e2, q1, q2, q3, q4, q5⟩ := hf
        exact ⟨g2, o2, n2, c2, e2, q1, q2, by rw [← HW.out.1.sz]; exact q3, fun j => (HW.out.1.frozen _ _).trans (q4 j), fun j hj => HW.out.2 _ _ (q5 j hj)⟩
      have HFW : Hid (CFree wr (g + 1) E (.slice p (P.getD k []).length c)) := hfw
      clear hu hf hfw
      generalize (P.getD k []).length = m at *
      go_wp2_with fail
      refine (markInsS_any wr (g + 1) E _ HFW.out K hK0 (by omega) (fun p' n' c' e => by injection e with _ e _; omega)).mono ?_
      rintro e w2 ⟨K2, rfl, hK2, hK3, hW2, hKe⟩
      have HW2 : Hid (Within (g + 1) E x w2 ∧ Keeps x w2) := ⟨HW.out.1.trans hW2, HW.out.2.trans hKe⟩
      clear hW2 hKe d0 HFW
      go_wp2_with fail
      go_roundw
      case rel => exact ⟨k + 1, K2, by omega, by go_num, rfl, by omega, by omega, HW2.out⟩
      case measure => simp [intOf]; omega
    · obtain rfl : k = n := by omega
      have hki : ¬ (k : Int) < (k : Int) := by omega
      go_wp2_with fail
      go_ret
      exact ⟨K, rfl, hK0, by omega, HW.out.1.wide (by omega) (Nat.le_refl _)⟩

end Go.Proofs.Ytlkebkajdlgebaa
