/-
  The contract of the model's l1Ends: a new row of the words at which the ends of an operation are found.
-/
import Derived.Test.YtlnfjjciilieeaaDoI
import Derived.Test.YtlnfjjciilieeaaInts
import Derived.Maps.AppendAt
namespace Go.Proofs.Ytlnfjjciilieeaa
open Go.RowKit
set_option linter.unusedVariables false
set_option linter.unusedSimpArgs false

def tryV (bl bh : Int) (k : Nat) : Int := if k = 0 then bl else if k = 1 then bh else if k = 2 then -1 else 1
def keepB (op bl bh n : Int) : Bool := inB n bl bh && !(decide (op = 4) && decide (n = 0))
def EL (op bl bh : Int) : Nat → List Int
  | 0 => []
  | k + 1 => EL op bl bh k ++ (if keepB op bl bh (tryV bl bh k) = true then [tryV bl bh k] else [])
theorem EL_len (op bl bh : Int) (k : Nat) : (EL op bl bh k).length ≤ k := by
  induction k with
  | zero => simp [EL]
  | succ k ih => rw [EL, List.length_append]; split <;> simp <;> omega
theorem EL_yes {op bl bh v : Int} {k : Nat} (hv : tryV bl bh k = v) (h : keepB op bl bh v = true) : EL op bl bh (k + 1) = EL op bl bh k ++ [v] := by rw [EL, hv, if_pos h]
theorem EL_no {op bl bh v : Int} {k : Nat} (hv : tryV bl bh k = v) (h : keepB op bl bh v = false) : EL op bl bh (k + 1) = EL op bl bh k := by rw [EL, hv, if_neg (by simp [h])]; simp
theorem EL_four (op bl bh : Int) : EL op bl bh 4 = endsF op bl bh := by
  have e0 : tryV bl bh 0 = bl := rfl
  have e1 : tryV bl bh 1 = bh := rfl
  have e2 : tryV bl bh 2 = -1 := rfl
  have e3 : tryV bl bh 3 = 1 := rfl
  simp only [EL, e0, e1, e2, e3, endsF, List.filter, keepB]
  cases (inB bl bl bh && !(decide (op = 4) && decide (bl = 0))) <;> cases (inB bh bl bh && !(decide (op = 4) && decide (bh = 0))) <;> cases (inB (-1) bl bh && !(decide (op = 4) && decide ((-1 : Int) = 0))) <;> cases (inB 1 bl bh && !(decide (op = 4) && decide ((1 : Int) = 0))) <;> rfl

theorem Sp3.drawn {x : World} {m : Nat} {a : Bool} {l u : Int} (h : Sp3 x m a l u) (n : Nat) : Sp3 (x.drewN n) m a l u := by
  induction n with
  | zero => exact h
  | succ n ih => exact ih.drew
theorem Sp3.grown {x y : World} {m : Nat} {a : Bool} {l u : Int} {r : Option Nat} (h : Sp3 x m a l u) (hg : x.grownBy y r) (hne : some m ≠ r) : Sp3 y m a l u := by
  have hk := hg.block m h.lt hne
  exact ⟨Nat.lt_of_lt_of_le h.lt hg.size, (World.cell?_of_block (a := ⟨m, 0, none⟩) hk).trans h.c0, (World.cell?_of_block (a := ⟨m, 1, none⟩) hk).trans h.c1, (World.cell?_of_block (a := ⟨m, 2, none⟩) hk).trans h.c2, (World.frozen?_of_block (a := ⟨m, 0, none⟩) hk).trans h.f0, (World.frozen?_of_block (a := ⟨m, 1, none⟩) hk).trans h.f1, (World.frozen?_of_block (a := ⟨m, 2, none⟩) hk).trans h.f2⟩

/-- the world of l1Ends: the span, what is tried, and what is kept so far -/
structure EndSt (w x : World) (b : Bool) (bl bh : Int) (v : Value) (L : List Int) : Prop where
  bel : Below w.heap.size w x
  sb : Sp3 x w.heap.size b bl bh
  lt : w.heap.size + 1 + 1 < x.heap.size
  tr : ∀ k, k < 4 → x.cell? ⟨w.heap.size + 1 + 1, k, none⟩ = some (.int .i64 (tryV bl bh k))
  own : Owns x (w.heap.size + 1) v L
  ne : v.ownBlock ≠ some (w.heap.size + 1 + 1)
theorem EndSt.later {w x y : World} {b : Bool} {bl bh : Int} {v : Value} {L : List Int} (h : EndSt w x b bl bh v L) (hb : Below x.heap.size x y) : EndSt w y b bl bh v L :=
  ⟨h.bel.trans (hb.mono h.bel.size), h.sb.later hb, Nat.lt_of_lt_of_le h.lt hb.size, fun k hk => (hb.cell (p := ⟨w.heap.size + 1 + 1, k, none⟩) h.lt).trans (h.tr k hk), h.own.later hb, h.ne⟩
theorem EndSt.drawn {w x : World} {b : Bool} {bl bh : Int} {v : Value} {L : List Int} (h : EndSt w x b bl bh v L) (n : Nat) : EndSt w (x.drewN n) b bl bh v L := by
  induction n with
  | zero => exact h
  | succ n ih => exact ih.later (Below.drew (Below.refl _ _))
theorem EndSt.grown {w x y : World} {b : Bool} {bl bh : Int} {v v' : Value} {L M : List Int} (h : EndSt w x b bl bh v L) (ho : Owns y (w.heap.size + 1) v' M) (hg : x.grownBy y v.ownBlock) (hat : v'.ownBlock = v.ownBlock ∨ v'.ownBlock = some x.heap.size) : EndSt w y b bl bh v' M := by
  have hl := World.ownsRow.lt h.own
  have n0 : some w.heap.size ≠ v.ownBlock := fun e => by have := (hl _ e.symm).1; omega
  have n2 : some (w.heap.size + 1 + 1) ≠ v.ownBlock := fun e => h.ne e.symm
  have hlt := h.lt
  refine ⟨h.bel.grown hg h.bel.size (fun k hk => by have := (hl k hk).1; omega), h.sb.grown hg n0, Nat.lt_of_lt_of_le h.lt hg.size, fun k hk => (World.cell?_of_block (a := ⟨w.heap.size + 1 + 1, k, none⟩) (hg.block _ h.lt n2)).trans (h.tr k hk), ho, ?_⟩
  rcases hat with e | e
  · rw [e]; exact h.ne
  · rw [e]; intro e'; simp at e'; omega

set_option maxHeartbeats 2000000 in
theorem ends_spec (op : Int) (b : Bool) (bl bh : Int) (w : World) : Calls Try.prog 60 #[.int .i64 op, .agg #[.bool b, .int .i64 bl, .int .i64 bh]] w fun e y => ∃ v, e = .returned v ∧ Owns y (w.heap.size + 1) v (endsF op bl bh) ∧ Below w.heap.size w y := by
  obtain ⟨i0, hi, hz0, hz1, hz2⟩ : ∃ i, Try.prog.info? 3 = some i ∧ i.zero = some (.int .i64 0) ∧ i.size = 1 ∧ i.bytes = 8 := ⟨_, rfl, rfl, rfl, rfl⟩
  have HI : Hid (Try.prog.info? 3 = some i0 ∧ i0.zero = some (.int .i64 0) ∧ i0.size = 1 ∧ i0.bytes = 8) := ⟨hi, hz0, hz1, hz2⟩
  clear hi hz0 hz1 hz2
  go_enter Try.func60, Try.ntmps60
  go_wp2
  go_loopw [5, 7] (fun v i x => ∃ k : Nat, k ≤ 4 ∧ i = .int .i64 k ∧ EndSt w x b bl bh v (EL op bl bh k)) (fun _ i _ => 4 - (intOf i).toNat)
  case atStart =>
    refine ⟨0, by omega, rfl, by go_grown, ⟨by go_size, by simp [go_sem], by simp [go_sem], by simp [go_sem], by simp [go_sem], by simp [go_sem], by simp [go_sem]⟩, by go_size, ?_, ?_, ?_⟩
    · intro k hk
      match k, hk with
      | 0, _ => simp [go_sem, tryV]
      | 1, _ => simp [go_sem, tryV]
      | 2, _ => simp [go_sem, tryV]
      | 3, _ => simp [go_sem, tryV]
    · have := own_empty (w.alloc (.cells #[.bool b, .int .i64 bl, .int .i64 bh] 24)) (w.heap.size + 1) (by simp)
      exact World.ownsRow.alloc (by unfold Owns at this; simpa [EL] using this) _
    · simp [Value.ownBlock]
  case round =>
    obtain ⟨k, hk, rfl, hS⟩ := hrel
    have hS0 := hS
    by_cases hlt : k < 4
    · obtain ⟨hB, ⟨nB, cB0, cB1, cB2, fB0, fB1, fB2⟩, hlt2, htr, hown, hne⟩ := hS
      have ct := htr k hlt
      have hlen := EL_len op bl bh k
      clear htr hown hne
      generalize hv : tryV bl bh k = n at ct
      have HV : Hid (tryV bl bh k = n) := hv
      clear hv
      have hki : (k : Int) < 4 := by omega
      cases hkp : keepB op bl bh n
      · by_cases hin : inB n bl bh = true
        · obtain ⟨rfl, rfl⟩ : op = 4 ∧ n = 0 := by simp [keepB, hin] at hkp; omega
          have h6 : ∀ x : World, Calls Try.prog 58 #[.int .i64 0, .int .i64 bl, .int .i64 bh] x fun e y => e = .returned (.bool true) ∧ y = x := fun x => by have := l6In_any 0 bl bh x; rw [hin] at this; exact this
          have hkp' : Hid (keepB 4 bl bh 0 = false) := hkp
          clear hin hkp
          go_wp2
          go_quiet ((go_at_call 58; exact Calls.quiet_of_same (h6 _)))
          go_wp2
          go_roundw
          case rel => exact ⟨k + 1, by omega, by go_num, by rw [EL_no HV.out hkp'.out]; exact hS0.drawn _⟩
          case measure => simp [intOf]; omega
        · have hin' : inB n bl bh = false := by simpa using hin
          have h6 : ∀ x : World, Calls Try.prog 58 #[.int .i64 n, .int .i64 bl, .int .i64 bh] x fun e y => e = .returned (.bool false) ∧ y = x := fun x => by have := l6In_any n bl bh x; rw [hin'] at this; exact this
          have hkp' : Hid (keepB op bl bh n = false) := hkp
          clear hin hin' hkp
          go_wp2
          go_quiet ((go_at_call 58; exact Calls.quiet_of_same (h6 _)))
          go_wp2
          go_roundw
          case rel => exact ⟨k + 1, by omega, by go_num, by rw [EL_no HV.out hkp'.out]; exact hS0.drawn _⟩
          case measure => simp [intOf]; omega
      · obtain ⟨hin, hnz⟩ : inB n bl bh = true ∧ ¬ (op = 4 ∧ n = 0) := by
          simp [keepB] at hkp; exact ⟨hkp.1, fun h => by simp [h.1, h.2] at hkp⟩
        have h6 : ∀ x : World, Calls Try.prog 58 #[.int .i64 n, .int .i64 bl, .int .i64 bh] x fun e y => e = .returned (.bool true) ∧ y = x := fun x => by have := l6In_any n bl bh x; rw [hin] at this; exact this
        have hkp' : Hid (keepB op bl bh n = true) := hkp
        clear hin hkp
        by_cases hop : op = 4
        · subst hop
          have hn0 : (n == 0) = false := by simp at hnz; simp [hnz]
          clear hnz
          go_wp2
          go_quiet ((go_at_call 58; exact Calls.quiet_of_same (h6 _)))
          have hS1 := hS0.drawn nq
          go_wp2_with (at_builtin; refine wpList_append_own_at _ rfl _ _ 47 rfl (w.heap.size + 1) 3 i0 (.int .i64 0) 1 8 Try.underlying47 HI.out.1 HI.out.2.1 HI.out.2.2.1 HI.out.2.2.2 rfl (by decide) _ _ _ rfl (World.ownsRow.alloc hS1.own _) ⟨_, 0, none⟩ 1 1 [.int .i64 n] rfl rfl ?c1 ?c2 ?c3 ?c4 ?c5 ?_)
          case c1 => exact own_cell _ _
          case c2 => intro u hu; simp at hu; subst hu; rfl
          case c3 => unfold maxLen; omega
          case c4 => omega
          case c5 => have := hS1.lt; simp at this ⊢; omega
          intro v' w3 hown' hgrow _ hat
          have hS2 : EndSt w w3 b bl bh v' (EL 4 bl bh (k + 1)) := by
            refine (hS1.later (Below.alloc (Below.refl _ _) (Nat.le_refl _) _)).grown ?_ hgrow (by simpa using hat)
            rw [EL_yes HV.out hkp'.out]; unfold Owns; simpa using hown'
          clear hown' hgrow hat hS1 hS0 ct cB0 cB1 cB2 fB0 fB1 fB2 hB
          go_wp2
          go_roundw
          case rel => exact ⟨k + 1, by omega, by go_num, hS2⟩
          case measure => simp [intOf]; omega
        · clear hnz
          have hop' : (op == 4) = false := by simp [hop]
          go_wp2
          go_quiet ((go_at_call 58; exact Calls.quiet_of_same (h6 _)))
          have hS1 := hS0.drawn nq
          go_wp2_with (at_builtin; refine wpList_append_own_at _ rfl _ _ 47 rfl (w.heap.size + 1) 3 i0 (.int .i64 0) 1 8 Try.underlying47 HI.out.1 HI.out.2.1 HI.out.2.2.1 HI.out.2.2.2 rfl (by decide) _ _ _ rfl (World.ownsRow.alloc hS1.own _) ⟨_, 0, none⟩ 1 1 [.int .i64 n] rfl rfl ?c1 ?c2 ?c3 ?c4 ?c5 ?_)
          case c1 => exact own_cell _ _
          case c2 => intro u hu; simp at hu; subst hu; rfl
          case c3 => unfold maxLen; omega
          case c4 => omega
          case c5 => have := hS1.lt; simp at this ⊢; omega
          intro v' w3 hown' hgrow _ hat
          have hS2 : EndSt w w3 b bl bh v' (EL op bl bh (k + 1)) := by
            refine (hS1.later (Below.alloc (Below.refl _ _) (Nat.le_refl _) _)).grown ?_ hgrow (by simpa using hat)
            rw [EL_yes HV.out hkp'.out]; unfold Owns; simpa using hown'
          clear hown' hgrow hat hS1 hS0 ct cB0 cB1 cB2 fB0 fB1 fB2 hB
          go_wp2
          go_roundw
          case rel => exact ⟨k + 1, by omega, by go_num, hS2⟩
          case measure => simp [intOf]; omega
    · obtain rfl : k = 4 := by omega
      go_wp2
      go_ret
      exact ⟨_, rfl, by rw [← EL_four]; exact hS0.own, hS0.bel⟩

end Go.Proofs.Ytlnfjjciilieeaa
