import Derived.Test.YtbjegekfghihkaaB16
import Derived.Test.YtbjegekfghihkaaB3
/-
  The laws' marks on the spans of a state: markSpanS and markState write them all, and nothing else; heldSpanS and heldState find them where they stand.
-/
namespace Go.Proofs.Ytbjegekfghihkaa
open Go.RowKit
set_option linter.unusedVariables false
set_option linter.unusedSimpArgs false

/-- the mark that a span gets at number k -/
def mkS (k : Int) : Sp := (k % 3 == 0, k + 1, k + 1 + 1)
/-- the marks of n spans from number k on -/
def mks (k : Int) (n : Nat) : List Sp := (List.range n).map fun (j : Nat) => mkS (k + 3 * (j : Int))
theorem mks_len (k : Int) (n : Nat) : (mks k n).length = n := by simp [mks]
theorem mks_get (k : Int) (n j : Nat) (h : j < n) : (mks k n).getD j noSp = mkS (k + 3 * j) := by
  simp [mks, List.getD, List.getElem?_map, List.getElem?_range h]
/-- nothing but blocks from B on and ahead of E has changed -/
structure Within (B E : Nat) (x y : World) : Prop where
  sz : x.heap.size = y.heap.size
  below : Below B x y
  cell : ∀ b o, b < B ∨ E ≤ b → y.cell? ⟨b, o, none⟩ = x.cell? ⟨b, o, none⟩
  frozen : ∀ b o, y.frozen? ⟨b, o, none⟩ = x.frozen? ⟨b, o, none⟩
theorem Within.refl (B E : Nat) (x : World) : Within B E x x := ⟨rfl, Below.refl _ _, fun _ _ _ => rfl, fun _ _ => rfl⟩
theorem Within.set3 {B E : Nat} {x y : World} (h : Within B E x y) {g o : Nat} (h0 : B ≤ g) (h1 : g < E) (v0 v1 v2 : Value) : Within B E x (set3 y g o v0 v1 v2) :=
  ⟨by rw [set3_size]; exact h.sz, set3_below h.below h0, fun b p hb => (set3_miss _ _ _ _ _ _ _ _ (by omega)).trans (h.cell b p hb), fun b p => (set3_frozen _ _ _ _ _ _ _).trans (h.frozen b p)⟩

set_option maxHeartbeats 1000000 in
theorem markSpanS_any (x : World) (B E : Nat) (v : Value) (c : List Sp) (k0 : Int) (h : SpsAt true x B E v c) (hn : c.length ≤ 1048576) (h0 : 0 ≤ k0) (h1 : k0 ≤ 1000000000000000) :
    Calls Try.prog 41 #[v, .int .i64 k0] x fun e y => e = .returned (.int .i64 (k0 + 3 * c.length)) ∧ SpsAt true y B E v (mks k0 c.length) ∧ Within B E x y := by
  obtain ⟨p, cap, rfl, hm, hc⟩ := h
  generalize hL : c.length = n at *
  have HL : Hid (c.length = n) := hL
  have hni : (n : Int) ≤ 1048576 := by omega
  have HM : Hid (n ≤ maxLen) := hm
  clear hL hn hm
  have HC : Hid (n = 0 ∨ ∃ g o, p = some ⟨g, o, none⟩ ∧ B ≤ g ∧ g < E ∧ E ≤ x.heap.size ∧ (true = true → ∀ k, x.frozen? ⟨g, k, none⟩ = false) ∧ ∀ j, j < n → Spn x g (o + j * 3) (c.getD j noSp)) := hc
  clear hc
  go_enter Try.func41, Try.ntmps41
  go_wp2_with fail
  go_loopw [1, 5] (fun m t y => ∃ k : Nat, k ≤ n ∧ t = .int .i64 k ∧ m = .int .i64 (k0 + 3 * k) ∧ Within B E x y ∧ (∀ g o, p = some ⟨g, o, none⟩ → (∀ j, j < n * 3 → ∃ v, y.cell? ⟨g, o + j, none⟩ = some v) ∧ (∀ j, j < k → Spn y g (o + j * 3) (mkS (k0 + 3 * j))))) (fun _ t _ => n - (intOf t).toNat)
  case atStart =>
    refine ⟨0, by omega, rfl, by simp, Within.refl _ _ _, ?_⟩
    intro g o hp
    refine ⟨?_, fun j hj => by omega⟩
    rcases HC.out with h0 | ⟨g', o', hp', _, _, _, _, hs⟩
    · intro j hj; omega
    · rw [hp] at hp'
      injection hp' with hp'
      injection hp' with e1 e2
      subst e1 e2
      intro j hj
      obtain ⟨q0, q1, q2⟩ := hs (j / 3) (by omega)
      rcases (by omega : j = j / 3 * 3 ∨ j = j / 3 * 3 + 1 ∨ j = j / 3 * 3 + 2) with e | e | e <;> rw [e]
      · exact ⟨_, q0⟩
      · exact ⟨_, q1⟩
      · exact ⟨_, q2⟩
  case round =>
    obtain ⟨k, hk, rfl, rfl, hW, hp⟩ := hrel
    by_cases hlt : k < n
    · rcases HC.out with hz | ⟨g, o, rfl, hBg, hgE, hEx, hf, _⟩
      · omega
      obtain ⟨hcell, hdone⟩ := hp g o rfl
      have hki : (k : Int) < (n : Int) := by omega
      obtain ⟨u0, e0⟩ := hcell (k * 3) (by omega)
      obtain ⟨u1, e1⟩ := hcell (k * 3 + 1) (by omega)
      obtain ⟨u2, e2⟩ := hcell (k * 3 + 2) (by omega)
      have f0 : wr.frozen? ⟨g, o + k * 3, none⟩ = false := (hW.frozen _ _).trans (hf (by trivial) _)
      have f1 : wr.frozen? ⟨g, o + k * 3 + 1, none⟩ = false := (hW.frozen _ _).trans (hf (by trivial) _)
      have f2 : wr.frozen? ⟨g, o + k * 3 + 2, none⟩ = false := (hW.frozen _ _).trans (hf (by trivial) _)
      rw [← Nat.add_assoc] at e1 e2
      have hkb : 0 ≤ k0 + 3 * (k : Int) ∧ k0 + 3 * (k : Int) ≤ 2000000000000000 := by omega
      generalize hK : k0 + 3 * (k : Int) = K at *
      have HK : Hid (k0 + 3 * (k : Int) = K) := hK
      have hK0 := hkb.1
      have hK1 := hkb.2
      have HP : Hid ((∀ j, j < n * 3 → ∃ v, wr.cell? ⟨g, o + j, none⟩ = some v) ∧ (∀ j, j < k → Spn wr g (o + j * 3) (mkS (k0 + 3 * j)))) := ⟨hcell, hdone⟩
      clear hcell hdone hp hf hK hkb
      go_wp2_with fail
      go_roundw
      case rel =>
        refine ⟨k + 1, by omega, by go_num, ?_, ?_⟩
        · rw [← HK.out]; congr 1; omega
        · change Within B E x (set3 wr g (o + k * 3) _ _ _) ∧ ∀ g' o', _ → (∀ j, j < n * 3 → ∃ v, (set3 wr g (o + k * 3) _ _ _).cell? ⟨g', o' + j, none⟩ = some v) ∧ ∀ j, j < k + 1 → Spn (set3 wr g (o + k * 3) _ _ _) g' (o' + j * 3) (mkS (k0 + 3 * j))
          refine ⟨hW.set3 hBg hgE _ _ _, ?_⟩
          intro g' o' hp
          injection hp with hp
          injection hp with e3 e4
          subst e3 e4
          refine ⟨fun j hj => set3_some _ _ _ _ _ _ _ (HP.out.1 j hj), fun j hj => ?_⟩
          by_cases hjk : j = k
          · subst hjk
            rw [HK.out]
            exact set3_hit wr g (o + j * 3) (mkS K) ⟨_, e0⟩ ⟨_, e1⟩ ⟨_, e2⟩
          · obtain ⟨r0, r1, r2⟩ := HP.out.2 j (by omega)
            exact ⟨(set3_miss _ _ _ _ _ _ _ _ (by omega)).trans r0, (set3_miss _ _ _ _ _ _ _ _ (by omega)).trans r1, (set3_miss _ _ _ _ _ _ _ _ (by omega)).trans r2⟩
      case measure => simp [intOf]; omega
    · obtain rfl : k = n := by omega
      have hki : ¬ (k : Int) < (k : Int) := by omega
      go_wp2_with fail
      go_ret
      refine ⟨rfl, ⟨p, cap, by rw [mks_len], by rw [mks_len]; exact HM.out, ?_⟩, hW⟩
      rw [mks_len]
      rcases HC.out with hz | ⟨g, o, rfl, hBg, hgE, hEx, hf, _⟩
      · exact .inl hz
      · refine .inr ⟨g, o, rfl, hBg, hgE, by rw [← hW.sz]; exact hEx, fun _ j => (hW.frozen _ _).trans (hf (by trivial) j), fun j hj => ?_⟩
        rw [mks_get _ _ _ hj]
        exact (hp g o rfl).2 j hj

theorem markState_any (x : World) (B E : Nat) (a : Bool) (v : Value) (c : Sp) (L : List Sp) (k0 : Int) (h : SpsAt true x B E v L) (hn : L.length ≤ 1048576) (h0 : 0 ≤ k0) (h1 : k0 ≤ 1000000000000000) :
    Calls Try.prog 16 #[.agg #[.bool a, v, .bool c.1, .int .i64 c.2.1, .int .i64 c.2.2], .int .i64 k0] x fun e y => e = .returned (.int .i64 (k0 + 3 * L.length)) ∧ SpsAt true y B E v (mks k0 L.length) ∧ Within B E (x.alloc (.cells #[.bool a, v, .bool c.1, .int .i64 c.2.1, .int .i64 c.2.2] 37)) y := by
  obtain ⟨p, cap, rfl, _⟩ := id h
  have hA := h.later ((Below.refl x.heap.size x).alloc (Nat.le_refl _) (.cells #[.bool a, .slice p L.length cap, .bool c.1, .int .i64 c.2.1, .int .i64 c.2.2] 37))
  have HA : Hid (SpsAt true (x.alloc (.cells #[.bool a, .slice p L.length cap, .bool c.1, .int .i64 c.2.1, .int .i64 c.2.2] 37)) B E (.slice p L.length cap) L) := hA
  have HN : Hid (L.length ≤ 1048576) := hn
  clear hA h hn
  go_enter Try.func16, Try.ntmps16
  go_wp2_with (go_at_call 41; refine (markSpanS_any _ _ _ _ _ _ HA.out HN.out h0 h1).mono ?_; rintro e y ⟨rfl, hs, hw⟩)
  go_ret
  exact ⟨rfl, hs, hw⟩

end Go.Proofs.Ytbjegekfghihkaa

/-
  The laws' marks on a program: markProcS writes numbers into the instructions of a copy, and into nothing else.
-/
namespace Go.Proofs.Ytbjegekfghihkaa
open Go.RowKit
set_option linter.unusedVariables false
set_option linter.unusedSimpArgs false

/-- cells that are there stay there -/
def Keeps (x y : World) : Prop := ∀ b o, (∃ v, x.cell? ⟨b, o, none⟩ = some v) → ∃ v, y.cell? ⟨b, o, none⟩ = some v
theorem Keeps.refl (x : World) : Keeps x x := fun _ _ h => h
theorem Keeps.trans {x y z : World} (h : Keeps x y) (g : Keeps y z) : Keeps x z := fun b o q => g b o (h b o q)
theorem Keeps.set4 {x y : World} (h : Keeps x y) (g o : Nat) (v0 v1 v2 v3 : Value) : Keeps x (set4 y g o v0 v1 v2 v3) := fun b p q => set4_some _ _ _ _ _ _ _ _ (h b p q)
theorem Within.set4 {B E : Nat} {x y : World} (h : Within B E x y) {g o : Nat} (h0 : B ≤ g) (h1 : g < E) (v0 v1 v2 v3 : Value) : Within B E x (set4 y g o v0 v1 v2 v3) :=
  ⟨by rw [set4_size]; exact h.sz, set4_below h.below h0, fun b p hb => (set4_miss _ _ _ _ _ _ _ _ _ (by omega)).trans (h.cell b p hb), fun b p => (set4_frozen _ _ _ _ _ _ _ _).trans (h.frozen b p)⟩
theorem Within.trans {B E : Nat} {x y z : World} (h : Within B E x y) (g : Within B E y z) : Within B E x z :=
  ⟨h.sz.trans g.sz, h.below.trans g.below, fun b o q => (g.cell b o q).trans (h.cell b o q), fun b o => (g.frozen b o).trans (h.frozen b o)⟩
theorem Within.wide {B E C D : Nat} {x y : World} (h : Within B E x y) (hc : C ≤ B) (hd : E ≤ D) : Within C D x y :=
  ⟨h.sz, h.below.mono hc, fun b o q => h.cell b o (by omega), h.frozen⟩

set_option maxHeartbeats 1000000 in
theorem markInsS_any (x : World) (B E : Nat) (u : Value) (h : CFree x B E u) (k0 : Int) (h0 : 0 ≤ k0) (h1 : k0 ≤ 100000000000000) (hn : ∀ p n cap, u = .slice p n cap → n ≤ 1048576) :
    Calls Try.prog 40 #[u, .int .i64 k0] x fun e y => ∃ K : Int, e = .returned (.int .i64 K) ∧ k0 ≤ K ∧ K ≤ k0 + 4194304 ∧ Within B E x y ∧ Keeps x y := by
  obtain ⟨g, o, n, cap, rfl, hB, hE, hx, hf, hc⟩ := h
  have hn' := hn _ _ _ rfl
  have hni : (n : Int) ≤ 1048576 := by omega
  have HF : Hid (∀ k, x.frozen? ⟨g, k, none⟩ = false) := hf
  have HC : Hid (∀ j, j < n * 4 → ∃ v, x.cell? ⟨g, o + j, none⟩ = some v) := hc
  clear hf hc hn hn'
  go_enter Try.func40, Try.ntmps40
  go_wp2_with fail
  go_loopw [1, 5] (fun m t y => ∃ k : Nat, k ≤ n ∧ t = .int .i64 k ∧ m = .int .i64 (k0 + 4 * k) ∧ Hid (Within B E x y ∧ Keeps x y)) (fun _ t _ => n - (intOf t).toNat)
  case atStart => exact ⟨0, by omega, rfl, by simp, Within.refl _ _ _, Keeps.refl _⟩
  case round =>
    obtain ⟨k, hk, rfl, rfl, HW⟩ := hrel
    by_cases hlt : k < n
    · have hki : (k : Int) < (n : Int) := by omega
      obtain ⟨u0, e0⟩ := HW.out.2 _ _ (HC.out (k * 4) (by omega))
      obtain ⟨u1, e1⟩ := HW.out.2 _ _ (HC.out (k * 4 + 1) (by omega))
      obtain ⟨u2, e2⟩ := HW.out.2 _ _ (HC.out (k * 4 + 2) (by omega))
      obtain ⟨u3, e3⟩ := HW.out.2 _ _ (HC.out (k * 4 + 3) (by omega))
      have f0 : wr.frozen? ⟨g, o + k * 4, none⟩ = false := (HW.out.1.frozen _ _).trans (HF.out _)
      have f1 : wr.frozen? ⟨g, o + k * 4 + 1, none⟩ = false := (HW.out.1.frozen _ _).trans (HF.out _)
      have f2 : wr.frozen? ⟨g, o + k * 4 + 2, none⟩ = false := (HW.out.1.frozen _ _).trans (HF.out _)
      have f3 : wr.frozen? ⟨g, o + k * 4 + 3, none⟩ = false := (HW.out.1.frozen _ _).trans (HF.out _)
      rw [← Nat.add_assoc] at e1 e2 e3
      have hkb : 0 ≤ k0 + 4 * (k : Int) ∧ k0 + 4 * (k : Int) ≤ 2000000000000000 := by omega
      generalize hK : k0 + 4 * (k : Int) = K at *
      have HK : Hid (k0 + 4 * (k : Int) = K) := hK
      have hK0 := hkb.1
      have hK1 := hkb.2
      clear hK hkb
      go_wp2_with fail
      go_roundw
      case rel =>
        refine ⟨k + 1, by omega, by go_num, ?_, ?_⟩
        · rw [← HK.out]; congr 1; omega
        · exact ⟨HW.out.1.set4 (o := o + k * 4) hB hE _ _ _ _, HW.out.2.set4 g (o + k * 4) _ _ _ _⟩
      case measure => simp [intOf]; omega
    · obtain rfl : k = n := by omega
      have hki : ¬ (k : Int) < (k : Int) := by omega
      go_wp2_with fail
      go_ret
      exact ⟨_, rfl, by omega, by omega, HW.out.1, HW.out.2⟩

set_option maxHeartbeats 1000000 in
theorem markProcS_any (x : World) (B E : Nat) (v : Value) (P : List (List I4)) (h : FreeP x B E v P) (hP : P.length ≤ 1048576) (hall : ∀ j, j < P.length → (P.getD j []).length ≤ 1048576) (k0 : Int) (h0 : 0 ≤ k0) (h1 : k0 ≤ 1000) :
    Calls Try.prog 15 #[v, .int .i64 k0] x fun e y => ∃ K : Int, e = .returned (.int .i64 K) ∧ 0 ≤ K ∧ K ≤ 10000000000000 ∧ Within B E x y := by
  obtain ⟨g, cap, rfl, hB, hE, hx, hj⟩ := h
  generalize hL : P.length = n at *
  have hni : (n : Int) ≤ 1048576 := by omega
  have HJ : Hid (∀ j, j < n → ∃ p cap, x.cell? ⟨g, j, none⟩ = some (.slice p (P.getD j []).length cap) ∧ (P.getD j []).length ≤ 1048576 ∧ CFree x (g + 1) E (.slice p (P.getD j []).length cap)) := fun j hl => by
    obtain ⟨u, hu, hc, hf⟩ := hj j hl
    obtain ⟨p, cap, rfl, _⟩ := hc
    exact ⟨p, cap, hu, hall j hl, hf⟩
  clear hj hall hL
  go_enter Try.func15, Try.ntmps15
  go_wp2_with fail
  go_loopw [1, 5] (fun m t y => ∃ (k : Nat) (K : Int), k ≤ n ∧ t = .int .i64 k ∧ m = .int .i64 K ∧ 0 ≤ K ∧ K ≤ 1000 + 4194304 * k ∧ Hid (Within (g + 1) E x y ∧ Keeps x y)) (fun _ t _ => n - (intOf t).toNat)
  case atStart => exact ⟨0, k0, by omega, rfl, rfl, h0, by omega, Within.refl _ _ _, Keeps.refl _⟩
  case round =>
    obtain ⟨k, K, hk, rfl, rfl, hK0, hK1, HW⟩ := hrel
    by_cases hlt : k < n
    · have hki : (k : Int) < (n : Int) := by omega
      obtain ⟨p, c, hu, hle, hf⟩ := HJ.out k hlt
      have d0 : wr.cell? ⟨g, k, none⟩ = some (.slice p (P.getD k []).length c) := (HW.out.1.cell g k (by omega)).trans hu
      have hfw : CFree wr (g + 1) E (.slice p (P.getD k []).length c) := by
        obtain ⟨g2, o2, n2, c2, e2, q1, q2, q3, q4, q5⟩ := hf
        exact ⟨g2, o2, n2, c2, e2, q1, q2, by rw [← HW.out.1.sz]; exact q3, fun j => (HW.out.1.frozen _ _).trans (q4 j), fun j hj => HW.out.2 _ _ (q5 j hj)⟩
      have HFW : Hid (CFree wr (g + 1) E (.slice p (P.getD k []).length c)) := hfw
      clear hu hf hfw
      generalize (P.getD k []).length = m at *
      go_wp2_with fail
      refine (markInsS_any wr (g + 1) E _ HFW.out K hK0 (by omega) (fun p' n' c' e => by injection e with _ e _; omega)).mono ?_
      rintro e w2 ⟨K2, rfl, hK2, hK3, hW2, hKe⟩
      have HW2 : Hid (Within (g + 1) E x w2 ∧ Keeps x w2) := ⟨HW.out.1.trans hW2, HW.out.2.trans hKe⟩
      clear hW2 hKe d0 HFW
      go_wp2_with fail
      go_roundw
      case rel => exact ⟨k + 1, K2, by omega, by go_num, rfl, by omega, by omega, HW2.out⟩
      case measure => simp [intOf]; omega
    · obtain rfl : k = n := by omega
      have hki : ¬ (k : Int) < (k : Int) := by omega
      go_wp2_with fail
      go_ret
      exact ⟨K, rfl, hK0, by omega, HW.out.1.wide (by omega) (Nat.le_refl _)⟩

end Go.Proofs.Ytbjegekfghihkaa
