import Derived.Test.YtdomalclpjijaaaB4
import Derived.Laws.IdiomCopy
/-
  The laws' marks on the spans of a state: markSpanS and markState write them all, and nothing else; heldSpanS and heldState find them where they stand.
-/
namespace Go.Proofs.Ytdomalclpjijaaa
open Go.RowKit
set_option linter.unusedVariables false
set_option linter.unusedSimpArgs false

/-- the mark that a span gets at number k -/
def mkS (k : Int) : Sp := (k % 3 == 0, k + 1, k + 1 + 1)
/-- the marks of n spans from number k on -/
def mks (k : Int) (n : Nat) : List Sp := (List.range n).map fun (j : Nat) => mkS (k + 3 * (j : Int))
theorem mks_len (k : Int) (n : Nat) : (mks k n).length = n := by simp [mks]
theorem mks_get (k : Int) (n j : Nat) (h : j < n) : (mks k n).getD j noSp = mkS (k + 3 * j) := by
  simp [mks, List.getD, List.getElem?_map, List.getElem?_range h]
/-- nothing but blocks from B on and ahead of E has changed -/
structure Within (B E : Nat) (x y : World) : Prop where
  sz : x.heap.size = y.heap.size
  below : Below B x y
  cell : ∀ b o, b < B ∨ E ≤ b → y.cell? ⟨b, o, none⟩ = x.cell? ⟨b, o, none⟩
  frozen : ∀ b o, y.frozen? ⟨b, o, none⟩ = x.frozen? ⟨b, o, none⟩
theorem Within.refl (B E : Nat) (x : World) : Within B E x x := ⟨rfl, Below.refl _ _, fun _ _ _ => rfl, fun _ _ => rfl⟩
theorem Within.set3 {B E : Nat} {x y : World} (h : Within B E x y) {g o : Nat} (h0 : B ≤ g) (h1 : g < E) (v0 v1 v2 : Value) : Within B E x (set3 y g o v0 v1 v2) :=
  ⟨by rw [set3_size]; exact h.sz, set3_below h.below h0, fun b p hb => (set3_miss _ _ _ _ _ _ _ _ (by omega)).trans (h.cell b p hb), fun b p => (set3_frozen _ _ _ _ _ _ _).trans (h.frozen b p)⟩

set_option maxHeartbeats 1000000 in
theorem markSpanS_any (x : World) (B E : Nat) (v : Value) (c : List Sp) (k0 : Int) (h : SpsAt true x B E v c) (hn : c.length ≤ 1048576) (h0 : 0 ≤ k0) (h1 : k0 ≤ 1000000000000000) :
    Calls Try.prog 38 #[v, .int .i64 k0] x fun e y => e = .returned (.int .i64 (k0 + 3 * c.length)) ∧ SpsAt true y B E v (mks k0 c.length) ∧ Within B E x y := by
  obtain ⟨p, cap, rfl, hm, hc⟩ := h
  generalize hL : c.length = n at *
  have HL : Hid (c.length = n) := hL
  have hni : (n : Int) ≤ 1048576 := by omega
  have HM : Hid (n ≤ maxLen) := hm
  clear hL hn hm
  have HC : Hid (n = 0 ∨ ∃ g o, p = some ⟨g, o, none⟩ ∧ B ≤ g ∧ g < E ∧ E ≤ x.heap.size ∧ (true = true → ∀ k, x.frozen? ⟨g, k, none⟩ = false) ∧ ∀ j, j < n → Spn x g (o + j * 3) (c.getD j noSp)) := hc
  clear hc
  go_enter Try.func38, Try.ntmps38
  go_wp2_with fail
  go_loopw [1, 5] (fun m t y => ∃ k : Nat, k ≤ n ∧ t = .int .i64 k ∧ m = .int .i64 (k0 + 3 * k) ∧ Within B E x y ∧ (∀ g o, p = some ⟨g, o, none⟩ → (∀ j, j < n * 3 → ∃ v, y.cell? ⟨g, o + j, none⟩ = some v) ∧ (∀ j, j < k → Spn y g (o + j * 3) (mkS (k0 + 3 * j))))) (fun _ t _ => n - (intOf t).toNat)
  case atStart =>
    refine ⟨0, by omega, rfl, by simp, Within.refl _ _ _, ?_⟩
    intro g o hp
    refine ⟨?_, fun j hj => by omega⟩
    rcases HC.out with h0 | ⟨g', o', hp', _, _, _, _, hs⟩
    · intro j hj; omega
    · rw [hp] at hp'
      injection hp' with hp'
      injection hp' with e1 e2
      subst e1 e2
      intro j hj
      obtain ⟨q0, q1, q2⟩ := hs (j / 3) (by omega)
      rcases (by omega : j = j / 3 * 3 ∨ j = j / 3 * 3 + 1 ∨ j = j / 3 * 3 + 2) with e | e | e <;> rw [e]
      · exact ⟨_, q0⟩
      · exact ⟨_, q1⟩
      · exact ⟨_, q2⟩
  case round =>
    obtain ⟨k, hk, rfl, rfl, hW, hp⟩ := hrel
    by_cases hlt : k < n
    · rcases HC.out with hz | ⟨g, o, rfl, hBg, hgE, hEx, hf, _⟩
      · omega
      obtain ⟨hcell, hdone⟩ := hp g o rfl
      have hki : (k : Int) < (n : Int) := by omega
      obtain ⟨u0, e0⟩ := hcell (k * 3) (by omega)
      obtain ⟨u1, e1⟩ := hcell (k * 3 + 1) (by omega)
      obtain ⟨u2, e2⟩ := hcell (k * 3 + 2) (by omega)
      have f0 : wr.frozen? ⟨g, o + k * 3, none⟩ = false := (hW.frozen _ _).trans (hf (by trivial) _)
      have f1 : wr.frozen? ⟨g, o + k * 3 + 1, none⟩ = false := (hW.frozen _ _).trans (hf (by trivial) _)
      have f2 : wr.frozen? ⟨g, o + k * 3 + 2, none⟩ = false := (hW.frozen _ _).trans (hf (by trivial) _)
      rw [← Nat.add_assoc] at e1 e2
      have hkb : 0 ≤ k0 + 3 * (k : Int) ∧ k0 + 3 * (k : Int) ≤ 2000000000000000 := by omega
      generalize hK : k0 + 3 * (k : Int) = K at *
      have HK : Hid (k0 + 3 * (k : Int) = K) := hK
      have hK0 := hkb.1
      have hK1 := hkb.2
      have HP : Hid ((∀ j, j < n * 3 → ∃ v, wr.cell? ⟨g, o + j, none⟩ = some v) ∧ (∀ j, j < k → Spn wr g (o + j * 3) (mkS (k0 + 3 * j)))) := ⟨hcell, hdone⟩
      clear hcell hdone hp hf hK hkb
      go_wp2_with fail
      go_roundw
      case rel =>
        refine ⟨k + 1, by omega, by go_num, ?_, ?_⟩
        · rw [← HK.out]; congr 1; omega
        · change Within B E x (set3 wr g (o + k * 3) _ _ _) ∧ ∀ g' o', _ → (∀ j, j < n * 3 → ∃ v, (set3 wr g (o + k * 3) _ _ _).cell? ⟨g', o' + j, none⟩ = some v) ∧ ∀ j, j < k + 1 → Spn (set3 wr g (o + k * 3) _ _ _) g' (o' + j * 3) (mkS (k0 + 3 * j))
          refine ⟨hW.set3 hBg hgE _ _ _, ?_⟩
          intro g' o' hp
          injection hp with hp
          injection hp with e3 e4
          subst e3 e4
          refine ⟨fun j hj => set3_some _ _ _ _ _ _ _ (HP.out.1 j hj), fun j hj => ?_⟩
          by_cases hjk : j = k
          · subst hjk
            rw [HK.out]
            exact set3_hit wr g (o + j * 3) (mkS K) ⟨_, e0⟩ ⟨_, e1⟩ ⟨_, e2⟩
          · obtain ⟨r0, r1, r2⟩ := HP.out.2 j (by omega)
            exact ⟨(set3_miss _ _ _ _ _ _ _ _ (by omega)).trans r0, (set3_miss _ _ _ _ _ _ _ _ (by omega)).trans r1, (set3_miss _ _ _ _ _ _ _ _ (by omega)).trans r2⟩
      case measure => simp [intOf]; omega
    · obtain rfl : k = n := by omega
      have hki : ¬ (k : Int) < (k : Int) := by omega
      go_wp2_with fail
      go_ret
      refine ⟨rfl, ⟨p, cap, by rw [mks_len], by rw [mks_len]; exact HM.out, ?_⟩, hW⟩
      rw [mks_len]
      rcases HC.out with hz | ⟨g, o, rfl, hBg, hgE, hEx, hf, _⟩
      · exact .inl hz
      · refine .inr ⟨g, o, rfl, hBg, hgE, by rw [← hW.sz]; exact hEx, fun _ j => (hW.frozen _ _).trans (hf (by trivial) j), fun j hj => ?_⟩
        rw [mks_get _ _ _ hj]
        exact (hp g o rfl).2 j hj

set_option maxHeartbeats 1000000 in
theorem heldSpanS_same (x : World) (z : Bool) (B E : Nat) (v : Value) (n : Nat) (k0 : Int) (h : SpsAt z x B E v (mks k0 n)) (hn : n ≤ 1048576) (h0 : 0 ≤ k0) (h1 : k0 ≤ 1000000000000000) :
    Calls Try.prog 39 #[v, .int .i64 k0] x fun e y => e = .returned (.int .i64 (k0 + 3 * n)) ∧ y = x := by
  obtain ⟨p, cap, rfl, hm, hc⟩ := h
  rw [mks_len] at hm hc ⊢
  have hni : (n : Int) ≤ 1048576 := by omega
  have HC : Hid (n = 0 ∨ ∃ g o, p = some ⟨g, o, none⟩ ∧ B ≤ g ∧ g < E ∧ E ≤ x.heap.size ∧ (z = true → ∀ k, x.frozen? ⟨g, k, none⟩ = false) ∧ ∀ j, j < n → Spn x g (o + j * 3) ((mks k0 n).getD j noSp)) := hc
  clear hc hm hn
  go_enter Try.func39, Try.ntmps39
  go_wp2_with fail
  go_loopw [1, 5] (fun m t y => ∃ k : Nat, k ≤ n ∧ t = .int .i64 k ∧ m = .int .i64 (k0 + 3 * k) ∧ y = x) (fun _ t _ => n - (intOf t).toNat)
  case atStart => exact ⟨0, by omega, rfl, by simp, rfl⟩
  case round =>
    obtain ⟨k, hk, rfl, rfl, rfl⟩ := hrel
    by_cases hlt : k < n
    · rcases HC.out with hz | ⟨g, o, rfl, hBg, hgE, hEx, hf, hs⟩
      · omega
      have hki : (k : Int) < (n : Int) := by omega
      have hsk := hs k hlt
      rw [mks_get _ _ _ hlt] at hsk
      have hkb : 0 ≤ k0 + 3 * (k : Int) ∧ k0 + 3 * (k : Int) ≤ 2000000000000000 := by omega
      generalize hK : k0 + 3 * (k : Int) = K at *
      have HK : Hid (k0 + 3 * (k : Int) = K) := hK
      have hK0 := hkb.1
      have hK1 := hkb.2
      obtain ⟨q0, q1, q2⟩ := hsk
      replace q0 : wr.cell? ⟨g, o + k * 3, none⟩ = some (.bool (K % 3 == 0)) := q0
      replace q1 : wr.cell? ⟨g, o + k * 3 + 1, none⟩ = some (.int .i64 (K + 1)) := q1
      replace q2 : wr.cell? ⟨g, o + k * 3 + 2, none⟩ = some (.int .i64 (K + 1 + 1)) := q2
      clear hs hf hK hkb
      go_wp2_with fail
      go_roundw
      case rel =>
        refine ⟨k + 1, by omega, by go_num, ?_, trivial⟩
        rw [← HK.out]; congr 1; omega
      case measure => simp [intOf]; omega
    · obtain rfl : k = n := by omega
      have hki : ¬ (k : Int) < (k : Int) := by omega
      go_wp2_with fail
      go_ret
      exact ⟨rfl, rfl⟩

theorem markState_any (x : World) (B E : Nat) (a : Bool) (v : Value) (c : Sp) (L : List Sp) (k0 : Int) (h : SpsAt true x B E v L) (hn : L.length ≤ 1048576) (h0 : 0 ≤ k0) (h1 : k0 ≤ 1000000000000000) :
    Calls Try.prog 15 #[.agg #[.bool a, v, .bool c.1, .int .i64 c.2.1, .int .i64 c.2.2], .int .i64 k0] x fun e y => e = .returned (.int .i64 (k0 + 3 * L.length)) ∧ SpsAt true y B E v (mks k0 L.length) ∧ Within B E (x.alloc (.cells #[.bool a, v, .bool c.1, .int .i64 c.2.1, .int .i64 c.2.2] 31)) y := by
  obtain ⟨p, cap, rfl, _⟩ := id h
  have hA := h.later ((Below.refl x.heap.size x).alloc (Nat.le_refl _) (.cells #[.bool a, .slice p L.length cap, .bool c.1, .int .i64 c.2.1, .int .i64 c.2.2] 31))
  have HA : Hid (SpsAt true (x.alloc (.cells #[.bool a, .slice p L.length cap, .bool c.1, .int .i64 c.2.1, .int .i64 c.2.2] 31)) B E (.slice p L.length cap) L) := hA
  have HN : Hid (L.length ≤ 1048576) := hn
  clear hA h hn
  go_enter Try.func15, Try.ntmps15
  go_wp2_with (go_at_call 38; refine (markSpanS_any _ _ _ _ _ _ HA.out HN.out h0 h1).mono ?_; rintro e y ⟨rfl, hs, hw⟩)
  go_ret
  exact ⟨rfl, hs, hw⟩

theorem heldState_same (x : World) (z : Bool) (B E : Nat) (a : Bool) (v : Value) (c : Sp) (n : Nat) (k0 : Int) (h : SpsAt z x B E v (mks k0 n)) (hn : n ≤ 1048576) (h0 : 0 ≤ k0) (h1 : k0 ≤ 1000000000000000) :
    Calls Try.prog 16 #[.agg #[.bool a, v, .bool c.1, .int .i64 c.2.1, .int .i64 c.2.2], .int .i64 k0] x fun e y => e = .returned (.int .i64 (k0 + 3 * n)) ∧ y = x.alloc (.cells #[.bool a, v, .bool c.1, .int .i64 c.2.1, .int .i64 c.2.2] 31) := by
  obtain ⟨p, cap, rfl, _⟩ := id h
  rw [mks_len] at *
  have hA := h.later ((Below.refl x.heap.size x).alloc (Nat.le_refl _) (.cells #[.bool a, .slice p n cap, .bool c.1, .int .i64 c.2.1, .int .i64 c.2.2] 31))
  have HA : Hid (SpsAt z (x.alloc (.cells #[.bool a, .slice p n cap, .bool c.1, .int .i64 c.2.1, .int .i64 c.2.2] 31)) B E (.slice p n cap) (mks k0 n)) := hA
  have HN : Hid (n ≤ 1048576) := hn
  have hk : ¬ k0 + 3 * (n : Int) < 0 := by omega
  clear hA h hn
  go_enter Try.func16, Try.ntmps16
  go_wp2_with (go_at_call 39; refine (heldSpanS_same _ _ _ _ _ _ _ HA.out HN.out h0 h1).mono ?_; rintro e y ⟨rfl, rfl⟩)
  go_ret
  exact ⟨rfl, rfl⟩

end Go.Proofs.Ytdomalclpjijaaa

/-
  slices.Repeat of one span, three times: a new list of three spans.
-/
namespace Go.Proofs.Ytdomalclpjijaaa
open Go.RowKit
set_option linter.unusedVariables false
set_option linter.unusedSimpArgs false

theorem run_copy3 (w : World) (ty : TypeId) (b o dLen dCap ga oa sLen sCap : Nat) (s : Sp) (hmin : Nat.min sLen dLen = 1) (hsrc : Spn w ga oa s)
    (hc : ∀ j, j < 3 → ∃ v, w.cell? ⟨b, o + j, none⟩ = some v) (hf : ∀ j, w.frozen? ⟨b, j, none⟩ = false) :
    (Builtin.copy_ #[28, 28] ty #[.slice (some ⟨b, o, none⟩) dLen dCap, .slice (some ⟨ga, oa, none⟩) sLen sCap]).run Try.prog w = .ok (.int .i64 1) (set3 w b o (.bool s.1) (.int .i64 s.2.1) (.int .i64 s.2.2)) := by
  obtain ⟨i, hi, hz0, hz1, hz2⟩ : ∃ i, Try.prog.info? 29 = some i ∧ i.zero = some (aggS noSp) ∧ i.size = 3 ∧ i.bytes = 24 := info_parts infoSpan
  obtain ⟨q0, q1, q2⟩ := hsrc
  have hl := run_loadCells_list (P := Try.prog) w ⟨ga, oa, none⟩ [.bool s.1, .int .i64 s.2.1, .int .i64 s.2.2] (by
    intro j v hv
    rw [Addr.add_mid]
    match j, hv with
    | 0, hv => simpa using (by simpa using hv : Value.bool s.1 = v) ▸ q0
    | 1, hv => simpa using (by simpa using hv : Value.int .i64 s.2.1 = v) ▸ q1
    | 2, hv => simpa using (by simpa using hv : Value.int .i64 s.2.2 = v) ▸ q2
    | j + 3, hv => simp at hv)
  have hst := run_storeCells_cells (P := Try.prog) b o [.bool s.1, .int .i64 s.2.1, .int .i64 s.2.2] 0 w (by
    intro j hj
    obtain ⟨v, hv⟩ := hc j (by simpa using hj)
    simp [hv]) (fun j _ => hf _) (by intro v hv; simp at hv; rcases hv with rfl | rfl | rfl <;> rfl)
  have hu : Try.prog.underlying 28 = some (.slice 29) := Try.underlying28
  simp [Builtin.copy_, run_underlying hu, Builtin.lenOf, Builtin.firstCells, sizeOf, typeInfo, hi, hz1, hmin] at hl hst ⊢
  simp [hl, hst, goInt, set3, World.setCells]

/-- three spans at the head of a block, the first k of which are s -/
structure Rep (y : World) (b k : Nat) (s : Sp) : Prop where
  lt : b < y.heap.size
  some : ∀ j, j < 9 → ∃ v, y.cell? ⟨b, j, none⟩ = some v
  fz : ∀ j, y.frozen? ⟨b, j, none⟩ = false
  got : ∀ j, j < k → Spn y b (j * 3) s
theorem Rep.next {y : World} {b k : Nat} {s : Sp} (h : Rep y b k s) (hk : k < 3) : Rep (set3 y b (k * 3) (.bool s.1) (.int .i64 s.2.1) (.int .i64 s.2.2)) b (k + 1) s :=
  ⟨by rw [set3_size]; exact h.lt, fun j hj => set3_some _ _ _ _ _ _ _ (h.some j hj), fun j => (set3_frozen _ _ _ _ _ _ _).trans (h.fz j), fun j hj => by
    by_cases e : j = k
    · subst e
      exact set3_hit _ _ _ _ (h.some _ (by omega)) (h.some _ (by omega)) (h.some _ (by omega))
    · obtain ⟨r0, r1, r2⟩ := h.got j (by omega)
      exact ⟨(set3_miss _ _ _ _ _ _ _ _ (by omega)).trans r0, (set3_miss _ _ _ _ _ _ _ _ (by omega)).trans r1, (set3_miss _ _ _ _ _ _ _ _ (by omega)).trans r2⟩⟩
theorem Rep.drew {y : World} {b k : Nat} {s : Sp} (h : Rep y b k s) : Rep y.drew b k s := ⟨h.lt, h.some, h.fz, fun j hj => ⟨(h.got j hj).c0, (h.got j hj).c1, (h.got j hj).c2⟩⟩

end Go.Proofs.Ytdomalclpjijaaa
