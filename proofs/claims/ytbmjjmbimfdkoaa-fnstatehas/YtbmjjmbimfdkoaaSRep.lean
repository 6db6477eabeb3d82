/-
  slices.Repeat of one span, three times: a new list of three spans.
-/
import Derived.Test.YtbmjjmbimfdkoaaSMark
import Derived.Laws.IdiomCopy
namespace Go.Proofs.Ytbmjjmbimfdkoaa
open Go.RowKit
set_option linter.unusedVariables false
set_option linter.unusedSimpArgs false

theorem mul64_13 (w : World) : Calls Try.prog 86 #[.int .u64 1, .int .u64 3] w fun e w' => e = .returned (.tuple #[.int .u64 0, .int .u64 3]) ∧ w' = w := by
  go_enter Try.func86, Try.ntmps86
  go_wp2
  refine bodyPost_ret (v := .tuple #[.int .u64 0, .int .u64 3]) (by simp [results, Try.results86, go_sem]; first | done | rfl | decide) rfl ⟨rfl, rfl⟩
theorem mul_13 (w : World) : Calls Try.prog 72 #[.int .u64 1, .int .u64 3] w fun e w' => e = .returned (.tuple #[.int .u64 0, .int .u64 3]) ∧ w' = w := by
  go_enter Try.func72, Try.ntmps72
  go_wp2_with (go_at_call 86; refine (mul64_13 _).mono ?_; rintro e w' ⟨rfl, rfl⟩)
  refine bodyPost_ret (v := .tuple #[.int .u64 0, .int .u64 3]) (by simp [results, Try.results72, go_sem]) rfl ⟨rfl, rfl⟩

theorem run_copy3 (w : World) (ty : TypeId) (b o dLen dCap ga oa sLen sCap : Nat) (s : Sp) (hmin : Nat.min sLen dLen = 1) (hsrc : Spn w ga oa s)
    (hc : ∀ j, j < 3 → ∃ v, w.cell? ⟨b, o + j, none⟩ = some v) (hf : ∀ j, w.frozen? ⟨b, j, none⟩ = false) :
    (Builtin.copy_ #[29, 29] ty #[.slice (some ⟨b, o, none⟩) dLen dCap, .slice (some ⟨ga, oa, none⟩) sLen sCap]).run Try.prog w = .ok (.int .i64 1) (set3 w b o (.bool s.1) (.int .i64 s.2.1) (.int .i64 s.2.2)) := by
  obtain ⟨i, hi, hz0, hz1, hz2⟩ : ∃ i, Try.prog.info? 30 = some i ∧ i.zero = some (aggS noSp) ∧ i.size = 3 ∧ i.bytes = 24 := info_parts infoSpan
  obtain ⟨q0, q1, q2⟩ := hsrc
  have hl := run_loadCells_list (P := Try.prog) w ⟨ga, oa, none⟩ [.bool s.1, .int .i64 s.2.1, .int .i64 s.2.2] (by
    intro j v hv
    rw [Addr.add_mid]
    match j, hv with
    | 0, hv => simpa using (by simpa using hv : Value.bool s.1 = v) ▸ q0
    | 1, hv => simpa using (by simpa using hv : Value.int .i64 s.2.1 = v) ▸ q1
    | 2, hv => simpa using (by simpa using hv : Value.int .i64 s.2.2 = v) ▸ q2
    | j + 3, hv => simp at hv)
  have hst := run_storeCells_cells (P := Try.prog) b o [.bool s.1, .int .i64 s.2.1, .int .i64 s.2.2] 0 w (by
    intro j hj
    obtain ⟨v, hv⟩ := hc j (by simpa using hj)
    simp [hv]) (fun j _ => hf _) (by intro v hv; simp at hv; rcases hv with rfl | rfl | rfl <;> rfl)
  have hu : Try.prog.underlying 29 = some (.slice 30) := Try.underlying29
  simp [Builtin.copy_, run_underlying hu, Builtin.lenOf, Builtin.firstCells, sizeOf, typeInfo, hi, hz1, hmin] at hl hst ⊢
  simp [hl, hst, goInt, set3, World.setCells]

/-- three spans at the head of a block, the first k of which are s -/
structure Rep (y : World) (b k : Nat) (s : Sp) : Prop where
  lt : b < y.heap.size
  some : ∀ j, j < 9 → ∃ v, y.cell? ⟨b, j, none⟩ = some v
  fz : ∀ j, y.frozen? ⟨b, j, none⟩ = false
  got : ∀ j, j < k → Spn y b (j * 3) s
theorem Rep.next {y : World} {b k : Nat} {s : Sp} (h : Rep y b k s) (hk : k < 3) : Rep (set3 y b (k * 3) (.bool s.1) (.int .i64 s.2.1) (.int .i64 s.2.2)) b (k + 1) s :=
  ⟨by rw [set3_size]; exact h.lt, fun j hj => set3_some _ _ _ _ _ _ _ (h.some j hj), fun j => (set3_frozen _ _ _ _ _ _ _).trans (h.fz j), fun j hj => by
    by_cases e : j = k
    · subst e
      exact set3_hit _ _ _ _ (h.some _ (by omega)) (h.some _ (by omega)) (h.some _ (by omega))
    · obtain ⟨r0, r1, r2⟩ := h.got j (by omega)
      exact ⟨(set3_miss _ _ _ _ _ _ _ _ (by omega)).trans r0, (set3_miss _ _ _ _ _ _ _ _ (by omega)).trans r1, (set3_miss _ _ _ _ _ _ _ _ (by omega)).trans r2⟩⟩
theorem Rep.drew {y : World} {b k : Nat} {s : Sp} (h : Rep y b k s) : Rep y.drew b k s := ⟨h.lt, h.some, h.fz, fun j hj => ⟨(h.got j hj).c0, (h.got j hj).c1, (h.got j hj).c2⟩⟩

set_option maxHeartbeats 2000000 in
theorem rep_any (x : World) (g o cap : Nat) (s : Sp) (h : Spn x g o s) (hg : g < x.heap.size) :
    Calls Try.prog 53 #[.slice (some ⟨g, o, none⟩) 1 cap, .int .i64 3] x fun e y => e = .returned (.slice (some ⟨x.heap.size, 0, none⟩) 3 3) ∧ Rep y x.heap.size 3 s ∧ Below x.heap.size x y := by
  obtain ⟨i, hi, hz0, hz1, hz2⟩ : ∃ i, Try.prog.info? 30 = some i ∧ i.zero = some (aggS noSp) ∧ i.size = 3 ∧ i.bytes = 24 := info_parts infoSpan
  have HI : Hid (Try.prog.info? 30 = some i ∧ i.zero = some (aggS noSp) ∧ i.size = 3 ∧ i.bytes = 24) := ⟨hi, hz0, hz1, hz2⟩
  clear hi hz0 hz1 hz2
  go_enter Try.func53, Try.ntmps53
  go_wp2_with (first
    | (go_at_call 72; refine (mul_13 _).mono ?_; rintro e w' ⟨rfl, hw⟩; have hw := hw.symm; subst hw)
    | refine wpList_make_full _ rfl _ _ 29 rfl x.heap.size 30 i (aggS noSp) 3 Try.underlying29 HI.out.1 HI.out.2.1 HI.out.2.2.1 .i64 .i64 3 3 3 rfl rfl rfl rfl ?b2 ?b3 (Nat.le_refl _) ?_)
  case b2 => rw [HI.out.2.2.2]; decide
  case b3 => unfold maxLen; decide
  intro w1 hown0 hgr
  obtain ⟨xs, hown⟩ : ∃ xs, w1.ownsRow x.heap.size 30 3 (.slice (some ⟨x.heap.size, 0, none⟩) 3 3) 3 xs := ⟨_, hown0⟩
  clear hown0
  have hg1 : x.heap.size < w1.heap.size := (World.ownsRow.lt hown x.heap.size rfl).2
  have hB1 : Below x.heap.size x w1 := (Below.refl _ _).grown hgr (Nat.le_refl _) (fun k hk => by simp at hk)
  have hR : Rep w1 x.heap.size 0 s := by
    refine ⟨hg1, fun k hk => ?_, fun k => World.ownsRow.frozenAt hown k, fun j hj => by omega⟩
    have hl : k < xs.length := by rw [hown.1]; exact hk
    have := World.ownsRow.cells hown rfl k _ (List.getElem?_eq_getElem hl)
    rw [Addr.add_mid, Nat.zero_add] at this
    exact ⟨_, this⟩
  clear hown hgr
  have hcp := run_copy3 w1 3 x.heap.size 0 3 3 g o 1 cap s rfl (h.later hB1 hg) (fun j hj => by rw [Nat.zero_add]; exact hR.some j (by omega)) hR.fz
  have hR1 := hR.next (by omega)
  have hB2 : Below x.heap.size x (set3 w1 x.heap.size 0 (.bool s.1) (.int .i64 s.2.1) (.int .i64 s.2.2)) := set3_below hB1 (Nat.le_refl _)
  rw [Nat.zero_mul, Nat.zero_add] at hR1
  have HR1 : Hid (Rep (set3 w1 x.heap.size 0 (.bool s.1) (.int .i64 s.2.1) (.int .i64 s.2.2)) x.heap.size 1 s) := hR1
  clear hR1 hR
  go_wp2_with fail
  go_loopw [8] (fun t y => ∃ (n : Int) (k : Nat), (n = 1 ∧ k = 1 ∨ n = 2 ∧ k = 2 ∨ n = 3 ∧ k = 3) ∧ t = .int .i64 n ∧ Rep y x.heap.size k s ∧ Below x.heap.size x y) (fun t _ => 3 - (intOf t).toNat)
  case atStart => exact ⟨1, 1, by simp, rfl, HR1.out, hB2⟩
  case round =>
    clear hcp HR1 hB1 hB2
    obtain ⟨n, k, hk, rfl, hR, hB⟩ := hrel
    rcases hk with ⟨rfl, rfl⟩ | ⟨rfl, rfl⟩ | ⟨rfl, rfl⟩
    · have hcp := run_copy3 wr.drew 3 x.heap.size 3 2 2 x.heap.size 0 1 3 s rfl (hR.drew.got 0 (by omega)) (fun j hj => hR.drew.some _ (by omega)) hR.drew.fz
      have hRn := hR.drew.next (by omega)
      have HRn : Hid (Rep (set3 wr.drew x.heap.size (1 * 3) (.bool s.1) (.int .i64 s.2.1) (.int .i64 s.2.2)) x.heap.size (1 + 1) s) := hRn
      clear hRn hR
      go_wp2_with fail
      go_region
      go_wp2_with fail
      go_roundw
      case rel => exact ⟨2, 2, by simp, rfl, HRn.out, set3_below hB.drew (Nat.le_refl _)⟩
      case measure => simp [intOf]
    · have hcp := run_copy3 wr.drew 3 x.heap.size 6 1 1 x.heap.size 0 2 3 s rfl (hR.drew.got 0 (by omega)) (fun j hj => hR.drew.some _ (by omega)) hR.drew.fz
      have hRn := hR.drew.next (by omega)
      have HRn : Hid (Rep (set3 wr.drew x.heap.size (2 * 3) (.bool s.1) (.int .i64 s.2.1) (.int .i64 s.2.2)) x.heap.size (2 + 1) s) := hRn
      clear hRn hR
      go_wp2_with fail
      go_region
      go_wp2_with fail
      go_roundw
      case rel => exact ⟨3, 3, by simp, rfl, HRn.out, set3_below hB.drew (Nat.le_refl _)⟩
      case measure => simp [intOf]
    · have HR : Hid (Rep wr x.heap.size 3 s) := hR
      clear hR
      go_wp2_with fail
      go_ret
      exact ⟨rfl, HR.out, hB⟩

end Go.Proofs.Ytbmjjmbimfdkoaa
