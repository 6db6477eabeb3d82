/-
  The laws' own helpers on a run that begins: markRun, heldRun.
-/
import Derived.Test.YtpogahhfdneagaaRNewG
namespace Go.Proofs.Ytpogahhfdneagaa
open Go.RowKit
set_option linter.unusedVariables false
set_option linter.unusedSimpArgs false

def one (x0 : World) (g : Nat) : World := ((x0.setCell ⟨g, 0, none⟩ (.int .i64 1)).setCell ⟨g, 1, none⟩ (.int .i64 2)).setCell ⟨g, 2, none⟩ (.int .i64 3)
def two (x0 : World) (g ga : Nat) : World := set3 (one x0 g) ga 0 (.int .i64 4) (.int .i64 5) (.int .i64 6)
def three (x0 : World) (g ga gb : Nat) : World := set3 (two x0 g ga) gb 0 (.int .i64 7) (.int .i64 8) (.int .i64 9)
def marked (x0 : World) (g ga gb : Nat) : World := (three x0 g ga gb).setCell ⟨g, 5, none⟩ (.int .i64 10)
theorem one_miss (x0 : World) (g b o : Nat) (h : b ≠ g ∨ 2 < o) : (one x0 g).cell? ⟨b, o, none⟩ = x0.cell? ⟨b, o, none⟩ := by
  unfold one
  rw [sc_other (by intro e; injection e; omega), sc_other (by intro e; injection e; omega), sc_other (by intro e; injection e; omega)]
theorem one_frozen (x0 : World) (g b o : Nat) : (one x0 g).frozen? ⟨b, o, none⟩ = x0.frozen? ⟨b, o, none⟩ := by unfold one; simp [World.frozen?_setCell]

set_option maxRecDepth 100000 in
theorem marked_rb {x0 : World} {g ga gb : Nat} {N : Nat → Int} (h : RB x0 g ga gb 3 3 N) (n1 : g ≠ ga) (n2 : g ≠ gb) (n3 : ga ≠ gb) : RB (marked x0 g ga gb) g ga gb 3 3 (fun j => (j : Int) + 1) := by
  obtain ⟨c0, c1, c2, c3, c4, c5, a0, a1, a2, b0, b1, b2, fg, fa, fb⟩ := h
  have T : ∀ b o, (b ≠ ga ∨ 2 < o) → (b ≠ gb ∨ 2 < o) → (three x0 g ga gb).cell? ⟨b, o, none⟩ = (one x0 g).cell? ⟨b, o, none⟩ := fun b o h1 h2 => by
    unfold three two
    rw [set3_miss _ _ _ _ _ _ _ _ (by omega), set3_miss _ _ _ _ _ _ _ _ (by omega)]
  have F : ∀ b o, (marked x0 g ga gb).frozen? ⟨b, o, none⟩ = x0.frozen? ⟨b, o, none⟩ := fun b o => by
    unfold marked three two
    rw [World.frozen?_setCell, set3_frozen, set3_frozen, one_frozen]
  have M : ∀ b o, (b ≠ g ∨ o ≠ 5) → (marked x0 g ga gb).cell? ⟨b, o, none⟩ = (three x0 g ga gb).cell? ⟨b, o, none⟩ := fun b o h1 => by
    unfold marked
    exact sc_other (by intro e; injection e; omega)
  have hA := set3_hit (one x0 g) ga 0 (true, 0, 0)
  have o0 : (one x0 g).cell? ⟨g, 0, none⟩ = some (.int .i64 1) := by unfold one; simp [go_sem, c0, c1, c2]
  have o1 : (one x0 g).cell? ⟨g, 1, none⟩ = some (.int .i64 2) := by unfold one; simp [go_sem, c0, c1, c2]
  have o2 : (one x0 g).cell? ⟨g, 2, none⟩ = some (.int .i64 3) := by unfold one; simp [go_sem, c0, c1, c2]
  have p0 : (one x0 g).cell? ⟨ga, 0, none⟩ = some (.int .i64 (N 3)) := (one_miss _ _ _ _ (by omega)).trans a0
  have p1 : (one x0 g).cell? ⟨ga, 1, none⟩ = some (.int .i64 (N 4)) := (one_miss _ _ _ _ (by omega)).trans a1
  have p2 : (one x0 g).cell? ⟨ga, 2, none⟩ = some (.int .i64 (N 5)) := (one_miss _ _ _ _ (by omega)).trans a2
  have q0 : (two x0 g ga).cell? ⟨ga, 0, none⟩ = some (.int .i64 4) := by unfold two set3; simp [go_sem, p0, p1, p2]
  have q1 : (two x0 g ga).cell? ⟨ga, 1, none⟩ = some (.int .i64 5) := by unfold two set3; simp [go_sem, p0, p1, p2]
  have q2 : (two x0 g ga).cell? ⟨ga, 2, none⟩ = some (.int .i64 6) := by unfold two set3; simp [go_sem, p0, p1, p2]
  have r0 : (two x0 g ga).cell? ⟨gb, 0, none⟩ = some (.int .i64 (N 6)) := by unfold two; rw [set3_miss _ _ _ _ _ _ _ _ (by omega)]; exact (one_miss _ _ _ _ (by omega)).trans b0
  have r1 : (two x0 g ga).cell? ⟨gb, 1, none⟩ = some (.int .i64 (N 7)) := by unfold two; rw [set3_miss _ _ _ _ _ _ _ _ (by omega)]; exact (one_miss _ _ _ _ (by omega)).trans b1
  have r2 : (two x0 g ga).cell? ⟨gb, 2, none⟩ = some (.int .i64 (N 8)) := by unfold two; rw [set3_miss _ _ _ _ _ _ _ _ (by omega)]; exact (one_miss _ _ _ _ (by omega)).trans b2
  have s0 : (three x0 g ga gb).cell? ⟨gb, 0, none⟩ = some (.int .i64 7) := by unfold three set3; simp [go_sem, r0, r1, r2]
  have s1 : (three x0 g ga gb).cell? ⟨gb, 1, none⟩ = some (.int .i64 8) := by unfold three set3; simp [go_sem, r0, r1, r2]
  have s2 : (three x0 g ga gb).cell? ⟨gb, 2, none⟩ = some (.int .i64 9) := by unfold three set3; simp [go_sem, r0, r1, r2]
  have TA : ∀ o, (three x0 g ga gb).cell? ⟨ga, o, none⟩ = (two x0 g ga).cell? ⟨ga, o, none⟩ := fun o => by unfold three; exact set3_miss _ _ _ _ _ _ _ _ (by omega)
  have c5' : (three x0 g ga gb).cell? ⟨g, 5, none⟩ = some (.int .i64 (N 9)) := (T g 5 (by omega) (by omega)).trans ((one_miss _ _ _ _ (by omega)).trans c5)
  exact ⟨(M g 0 (by omega)).trans ((T g 0 (by omega) (by omega)).trans o0), (M g 1 (by omega)).trans ((T g 1 (by omega) (by omega)).trans o1), (M g 2 (by omega)).trans ((T g 2 (by omega) (by omega)).trans o2),
    (M g 3 (by omega)).trans ((T g 3 (by omega) (by omega)).trans ((one_miss _ _ _ _ (by omega)).trans c3)), (M g 4 (by omega)).trans ((T g 4 (by omega) (by omega)).trans ((one_miss _ _ _ _ (by omega)).trans c4)), sc_same c5',
    (M ga 0 (by omega)).trans ((TA 0).trans q0), (M ga 1 (by omega)).trans ((TA 1).trans q1), (M ga 2 (by omega)).trans ((TA 2).trans q2), (M gb 0 (by omega)).trans s0, (M gb 1 (by omega)).trans s1, (M gb 2 (by omega)).trans s2,
    fun k => (F g k).trans (fg k), fun k => (F ga k).trans (fa k), fun k => (F gb k).trans (fb k)⟩
theorem marked_within {x0 : World} {B E g ga gb : Nat} (h1 : B ≤ g) (h2 : B ≤ ga) (h3 : B ≤ gb) (h4 : g < E) (h5 : ga < E) (h6 : gb < E) : Within B E x0 (marked x0 g ga gb) := by
  have w1 : Within B E x0 (one x0 g) := by
    refine ⟨by unfold one; simp, ?_, fun b o hb => one_miss _ _ _ _ (by omega), fun b o => one_frozen _ _ _ _⟩
    unfold one
    exact (((Below.refl B x0).setCell (p := ⟨g, 0, none⟩) h1 _).setCell (p := ⟨g, 1, none⟩) h1 _).setCell (p := ⟨g, 2, none⟩) h1 _
  have w3 : Within B E x0 (three x0 g ga gb) := by unfold three two; exact (w1.set3 (o := 0) h2 h5 _ _ _).set3 (o := 0) h3 h6 _ _ _
  refine ⟨by unfold marked; simpa using w3.sz, ?_, fun b o hb => ?_, fun b o => ?_⟩
  · unfold marked; exact w3.below.setCell (p := ⟨g, 5, none⟩) h1 _
  · unfold marked; exact (sc_other (by intro e; injection e; omega)).trans (w3.cell b o hb)
  · unfold marked; exact (World.frozen?_setCell _ _ _ _).trans (w3.frozen b o)

set_option maxRecDepth 100000 in
set_option maxHeartbeats 4000000 in
theorem markFrameS_one (x0 : World) (g ga gb cap : Nat) (N : Nat → Int) (h : RB x0 g ga gb 3 3 N) (n1 : g ≠ ga) (n2 : g ≠ gb) (n3 : ga ≠ gb) :
    Calls Try.prog 66 #[.slice (some ⟨g, 0, none⟩) 1 cap, .int .i64 1] x0 fun e y => e = .returned (.int .i64 11) ∧ y = marked x0 g ga gb := by
  have H : Hid (RB x0 g ga gb 3 3 N) := h
  clear h
  go_enter Try.func66, Try.ntmps66
  go_wp2_with fail
  go_loopw [1, 5] (fun m t y => (t = .int .i64 0 ∧ m = .int .i64 1 ∧ x0 = y) ∨ (t = .int .i64 1 ∧ m = .int .i64 11 ∧ marked x0 g ga gb = y)) (fun _ t _ => 1 - (intOf t).toNat)
  case atStart => exact .inl ⟨rfl, rfl, rfl⟩
  case round =>
    rcases hrel with ⟨rfl, rfl, rfl⟩ | ⟨rfl, rfl, rfl⟩
    · obtain ⟨c0, c1, c2, c3, c4, c5, a0, a1, a2, b0, b1, b2, fg, fa, fb⟩ := H.out
      have f0 := fg 0
      have f1 := fg 1
      have f2 := fg 2
      have HA : Hid ((x0.cell? ⟨ga, 0, none⟩ = some (.int .i64 (N 3)) ∧ x0.cell? ⟨ga, 1, none⟩ = some (.int .i64 (N 4)) ∧ x0.cell? ⟨ga, 2, none⟩ = some (.int .i64 (N 5))) ∧ ∀ k, x0.frozen? ⟨ga, k, none⟩ = false) := ⟨⟨a0, a1, a2⟩, fa⟩
      have HB : Hid ((x0.cell? ⟨gb, 0, none⟩ = some (.int .i64 (N 6)) ∧ x0.cell? ⟨gb, 1, none⟩ = some (.int .i64 (N 7)) ∧ x0.cell? ⟨gb, 2, none⟩ = some (.int .i64 (N 8))) ∧ ∀ k, x0.frozen? ⟨gb, k, none⟩ = false) := ⟨⟨b0, b1, b2⟩, fb⟩
      have HG : Hid (x0.cell? ⟨g, 4, none⟩ = some (.slice (some ⟨gb, 0, none⟩) 3 3) ∧ x0.cell? ⟨g, 5, none⟩ = some (.int .i64 (N 9)) ∧ x0.frozen? ⟨g, 5, none⟩ = false) := ⟨c4, c5, fg 5⟩
      clear a0 a1 a2 b0 b1 b2 fg fa fb c4 c5
      go_wp2_with fail
      change Calls _ _ _ (one x0 g) _
      have hga := fun o => one_miss x0 g ga o (by omega)
      refine (markIntS_3 (one x0 g) ga 3 (N 3) (N 4) (N 5) 4 ((hga 0).trans HA.out.1.1) ((hga 1).trans HA.out.1.2.1) ((hga 2).trans HA.out.1.2.2) (fun j => (one_frozen _ _ _ _).trans (HA.out.2 j)) (by omega) (by omega)).mono ?_
      rintro e y ⟨rfl, hy⟩
      have hy' : two x0 g ga = y := hy.symm
      have hk4 : y.cell? ⟨g, 4, none⟩ = some (.slice (some ⟨gb, 0, none⟩) 3 3) := by rw [← hy']; unfold two; rw [set3_miss _ _ _ _ _ _ _ _ (by omega)]; exact (one_miss _ _ _ _ (by omega)).trans HG.out.1
      have hgb := fun o => (show y.cell? ⟨gb, o, none⟩ = x0.cell? ⟨gb, o, none⟩ by rw [← hy']; unfold two; rw [set3_miss _ _ _ _ _ _ _ _ (by omega)]; exact one_miss _ _ _ _ (by omega))
      have hfy := fun b o => (show y.frozen? ⟨b, o, none⟩ = x0.frozen? ⟨b, o, none⟩ by rw [← hy']; unfold two; rw [set3_frozen]; exact one_frozen _ _ _ _)
      have hg5 : y.cell? ⟨g, 5, none⟩ = some (.int .i64 (N 9)) := by rw [← hy']; unfold two; rw [set3_miss _ _ _ _ _ _ _ _ (by omega)]; exact (one_miss _ _ _ _ (by omega)).trans HG.out.2.1
      have HY : Hid (two x0 g ga = y) := hy'
      have HM := markIntS_3 y gb 3 (N 6) (N 7) (N 8) 7 ((hgb 0).trans HB.out.1.1) ((hgb 1).trans HB.out.1.2.1) ((hgb 2).trans HB.out.1.2.2) (fun j => (hfy gb j).trans (HB.out.2 j)) (by omega) (by omega)
      have HM' : Hid (Calls Try.prog 99 #[.slice (some ⟨gb, 0, none⟩) 3 3, .int .i64 7] y fun e z => e = .returned (.int .i64 10) ∧ z = set3 y gb 0 (.int .i64 7) (.int .i64 8) (.int .i64 9)) := HM
      have HG5 : Hid (y.cell? ⟨g, 5, none⟩ = some (.int .i64 (N 9)) ∧ y.frozen? ⟨g, 5, none⟩ = false) := ⟨hg5, (hfy g 5).trans HG.out.2.2⟩
      clear hy hy' hgb hfy hg5 HM hga c0 c1 c2 c3 f0 f1 f2
      go_wp2_with fail
      refine HM'.out.mono ?_
      rintro e z ⟨rfl, hz⟩
      have hz5 : z.cell? ⟨g, 5, none⟩ = some (.int .i64 (N 9)) := by rw [hz, set3_miss _ _ _ _ _ _ _ _ (by omega)]; exact HG5.out.1
      have fz5 : z.frozen? ⟨g, 5, none⟩ = false := by rw [hz, set3_frozen]; exact HG5.out.2
      have HZ : Hid (three x0 g ga gb = z) := by show three x0 g ga gb = z; unfold three; rw [HY.out]; exact hz.symm
      clear hz hk4 HM'
      go_wp2_with fail
      go_roundw
      case rel => exact .inr ⟨rfl, rfl, by unfold marked; rw [HZ.out]⟩
      case measure => simp [intOf]
    · go_wp2_with fail
      go_ret
      exact ⟨rfl, rfl⟩

end Go.Proofs.Ytpogahhfdneagaa
