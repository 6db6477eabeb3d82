import Derived.Test.YtdomalclpjijaaaB12
import Derived.Test.YtdomalclpjijaaaB10
/-
  The contract of the model's SpanDo.
-/
namespace Go.Proofs.Ytdomalclpjijaaa
open Go.RowKit
set_option linter.unusedVariables false
set_option linter.unusedSimpArgs false

theorem same_far {al ah bl bh : Int} (h : min ah bh < max al bl) : sameSp al ah bl bh = mkF 0 0 := by
  unfold sameSp; rw [mk_no h]; simp [mkF]
theorem same_one {al ah bl bh : Int} (h : ¬ min ah bh < max al bl) (e : al = bl ∧ ah = bh ∧ al = ah) : sameSp al ah bl bh = mkF 1 1 := by
  unfold sameSp; rw [mk_yes (by omega), if_neg (by simp), if_pos e]; simp [mkF]
theorem same_two {al ah bl bh : Int} (h : ¬ min ah bh < max al bl) (e : ¬ (al = bl ∧ ah = bh ∧ al = ah)) : sameSp al ah bl bh = mkF 0 1 := by
  unfold sameSp; rw [mk_yes (by omega), if_neg (by simp), if_neg e]; simp [mkF]

end Go.Proofs.Ytdomalclpjijaaa

/-
  The contract of the model's SpanDo, and that both answer the same.
-/
namespace Go.Proofs.Ytdomalclpjijaaa
open Go.RowKit
set_option linter.unusedVariables false
set_option linter.unusedSimpArgs false

/-- the world of the model's SpanDo -/
structure DsSt (w x : World) (g q : Nat) (al ah : Int) (L : List Int) (s : Sp) : Prop where
  bel : Below w.heap.size w x
  gt : w.heap.size + 1 + 1 < g
  sa : Sp3 x w.heap.size true al ah
  sr : Sp3 x (w.heap.size + 1 + 1) false 0 0
  sg : Sp3 x g s.1 s.2.1 s.2.2
  lq : q < g
  cs : ∀ j, j < L.length → x.cell? ⟨q, j, none⟩ = some (.int .i64 (L.getD j 0))
theorem DsSt.later {w x y : World} {g q : Nat} {al ah : Int} {L : List Int} {s : Sp} (h : DsSt w x g q al ah L s) (hb : Below x.heap.size x y) : DsSt w y g q al ah L s :=
  ⟨h.bel.trans (hb.mono h.bel.size), h.gt, h.sa.later hb, h.sr.later hb, h.sg.later hb, h.lq, fun j hj => (hb.cell (p := ⟨q, j, none⟩) (Nat.lt_trans h.lq h.sg.lt)).trans (h.cs j hj)⟩
theorem DsSt.drawn {w x : World} {g q : Nat} {al ah : Int} {L : List Int} {s : Sp} (h : DsSt w x g q al ah L s) (n : Nat) : DsSt w (x.drewN n) g q al ah L s := by
  induction n with
  | zero => exact h
  | succ n ih => exact ih.later (Below.drew (Below.refl _ _))
theorem DsSt.set {w x : World} {g q : Nat} {al ah : Int} {L : List Int} {s t : Sp} (h : DsSt w x g q al ah L s) : DsSt w (((x.setCell ⟨g, 0, none⟩ (.bool t.1)).setCell ⟨g, 1, none⟩ (.int .i64 t.2.1)).setCell ⟨g, 2, none⟩ (.int .i64 t.2.2)) g q al ah L t := by
  have hg := h.gt
  have hq := h.lq
  have n0 : w.heap.size ≠ g := by omega
  have n2 : w.heap.size + 1 + 1 ≠ g := by omega
  have hb : Below g x (((x.setCell ⟨g, 0, none⟩ (.bool t.1)).setCell ⟨g, 1, none⟩ (.int .i64 t.2.1)).setCell ⟨g, 2, none⟩ (.int .i64 t.2.2)) := (((Below.refl g x).setCell (p := ⟨g, 0, none⟩) (Nat.le_refl _) _).setCell (p := ⟨g, 1, none⟩) (Nat.le_refl _) _).setCell (p := ⟨g, 2, none⟩) (Nat.le_refl _) _
  exact ⟨((h.bel.setCell (by simp; omega) _).setCell (by simp; omega) _).setCell (by simp; omega) _, hg, ((h.sa.off n0).off n0).off n0, ((h.sr.off n2).off n2).off n2, h.sg.set, hq, fun j hj => (hb.cell (p := ⟨q, j, none⟩) hq).trans (h.cs j hj)⟩

theorem DsSt.set3 {w x : World} {g q : Nat} {al ah : Int} {L : List Int} {s : Sp} {a : Bool} {l u : Int} (h : DsSt w x g q al ah L s) : DsSt w (((x.setCell ⟨g, 0, none⟩ (.bool a)).setCell ⟨g, 1, none⟩ (.int .i64 l)).setCell ⟨g, 2, none⟩ (.int .i64 u)) g q al ah L (a, l, u) := h.set (t := (a, l, u))
theorem l1Of_yes (lo hi : Int) (w : World) (h : lo ≤ hi) : Calls Try.prog 70 #[.int .i64 lo, .int .i64 hi] w fun e w' => e = .returned (.agg #[.bool true, .int .i64 lo, .int .i64 hi]) ∧ Below w.heap.size w w' := by
  refine (l1Of_any lo hi w).mono ?_
  rintro e w' ⟨hs, hb⟩
  rw [mk_yes h] at hs
  exact ⟨hs, hb⟩
theorem hull_to {T : Int → Prop} {s t : Sp} (h : Hull T s) (e : s = t) : Hull T t := e ▸ h
theorem take_getD {L : List Int} {k : Nat} (h : k < L.length) : L.take (k + 1) = L.take k ++ [L.getD k 0] := by
  rw [List.take_succ_eq_append_getElem h]; simp [List.getD, List.getElem?_eq_getElem h]

theorem doSp_spec_out_post {op : Int} {a b : Bool} {al ah bl bh : Int} (h : bothF a al ah b bl bh = false ∨ (op < 1 ∨ 6 < op)) : DoIs op a al ah b bl bh noSp := by
  cases hb : bothF a al ah b bl bh
  · exact ⟨fun _ => rfl, fun h' => by simp [hb] at h', fun h' => by simp [hb] at h'⟩
  · have ho : op < 1 ∨ 6 < op := by simpa [hb] using h
    have := DoIs.of_hull hb (Hull.empty (fun n => box_out (al := al) (ah := ah) (bl := bl) (bh := bh) (n := n) ho))
    simpa [noSp] using this

end Go.Proofs.Ytdomalclpjijaaa
