import Derived.Test.YtbjegekfghihkaaB4
import Derived.Test.YtbjegekfghihkaaB11
import Derived.WalkKit
/-
  The contract of the program's ProgOk.
-/
namespace Go.Proofs.Ytbjegekfghihkaa
open Go.RowKit
set_option linter.unusedVariables false
set_option linter.unusedSimpArgs false
set_option maxHeartbeats 4000000 in
theorem progOk_impl_in (x : World) (B : Nat) (v : Value) (P : List (List I4)) (h : ProgAt x B v P) (h1 : 1 ≤ P.length) (h4 : P.length ≤ 4) :
    Calls Try.prog 53 #[v] x fun e y => e = .returned (.bool (P.all fun c => codeOkF c P.length)) ∧ Below x.heap.size x y := by
  obtain ⟨p, cap, rfl, hm, hc⟩ := h
  rcases hc with h0 | ⟨g, o, rfl, hBg, hgx, hins⟩
  · omega
  have HX : Hid (∀ j, j < P.length → ∃ u, x.cell? ⟨g, o + j, none⟩ = some u ∧ CodeAt x B u (P.getD j [])) := hins
  clear hins hm
  generalize hL : P.length = n at *
  have HL : Hid (P.length = n) := hL
  clear hL
  have hn1 : ¬ (n : Int) < 1 := by omega
  have hn4 : ¬ (4 : Int) < (n : Int) := by omega
  go_enter Try.func53, Try.ntmps53
  go_wp2_with fail
  go_loopw [17] (fun t y => ∃ k : Nat, k ≤ n ∧ t = .int .i64 k ∧ (P.take k).all (fun c => codeOkF c n) = true ∧ Below x.heap.size x y) (fun t _ => n - (intOf t).toNat)
  case atStart => exact ⟨0, by omega, rfl, by simp, Below.refl _ _⟩
  case round =>
    obtain ⟨k, hk, rfl, hall, hB⟩ := hrel
    have HAL : Hid ((P.take k).all (fun c => codeOkF c n) = true) := hall
    clear hall
    by_cases hlt : k < n
    · have hki : (k : Int) < (n : Int) := by omega
      obtain ⟨uk, cu, hcu⟩ := HX.out k hlt
      have hst := all_take (fun c => codeOkF c n) P [] k (by rw [HL.out]; exact hlt)
      have hfl := all_false (fun c => codeOkF c n) P [] k (by rw [HL.out]; exact hlt)
      rw [HAL.out, Bool.true_and] at hst
      generalize P.getD k [] = C at hst hfl hcu
      have HST : Hid ((P.take (k + 1)).all (fun c => codeOkF c n) = codeOkF C n) := hst
      have HFL : Hid (codeOkF C n = false → P.all (fun c => codeOkF c n) = false) := hfl
      clear hst hfl HAL
      obtain ⟨pk, ck, rfl, hmk, hck⟩ := hcu
      have d0 := (hB.cell (p := ⟨g, o + k, none⟩) hgx).trans cu
      clear cu
      have hgw : g < wr.heap.size := Nat.lt_of_lt_of_le hgx hB.size
      by_cases h8 : C.length ≤ 8
      · have h8i : ¬ (8 : Int) < (C.length : Int) := by omega
        clear hmk
        go_wp2_with fail
        have hX1 : (wr.alloc (.cells #[.slice pk C.length ck] 68)).heap.size = wr.heap.size + 1 := by simp
        have hXB : Below wr.heap.size wr (wr.alloc (.cells #[.slice pk C.length ck] 68)) := (Below.refl _ _).alloc (Nat.le_refl _) _
        have hXc : (wr.alloc (.cells #[.slice pk C.length ck] 68)).cell? ⟨wr.heap.size, 0, none⟩ = some (.slice pk C.length ck) := by simp [go_sem]
        generalize hXX : wr.alloc (.cells #[.slice pk C.length ck] 68) = X at *
        clear hXX
        have hBX := hB.trans (hXB.mono hB.size)
        have HBX : Hid (Below x.heap.size x X) := hBX
        have HXC : Hid (X.cell? ⟨wr.heap.size, 0, none⟩ = some (.slice pk C.length ck)) := hXc
        have hwX : wr.heap.size < X.heap.size := by omega
        clear hXB hX1 d0 hgw
        go_loopw [28] (fun t y => ∃ j : Nat, j ≤ C.length ∧ t = .int .i64 j ∧ (C.take j).all (fun i => insOkF i C.length n) = true ∧ Below X.heap.size X y) (fun t _ => C.length - (intOf t).toNat)
        case atStart => exact ⟨0, by omega, rfl, by simp, Below.refl _ _⟩
        case round =>
          clear hBX hXc
          obtain ⟨j, hj, rfl, hall, hBj⟩ := hrel
          rename World => wj
          have HAJ : Hid ((C.take j).all (fun i => insOkF i C.length n) = true) := hall
          clear hall
          have hBj2 := HBX.out.trans (hBj.mono HBX.out.size)
          have HBJ : Hid (Below x.heap.size x wj) := hBj2
          have d0 := (hBj.cell (p := ⟨wr.heap.size, 0, none⟩) hwX).trans HXC.out
          have hwj : wr.heap.size < wj.heap.size := Nat.lt_of_lt_of_le hwX hBj.size
          clear hBj2
          by_cases hjl : j < C.length
          · rcases hck with h0 | ⟨g2, o2, rfl, hB2, hg2, hi4⟩
            · omega
            have hji : (j : Int) < (C.length : Int) := by omega
            obtain ⟨q0, q1, q2, q3⟩ := hi4 j hjl
            have e0 := (HBJ.out.cell (p := ⟨g2, o2 + j * 4, none⟩) hg2).trans q0
            have e1 := (HBJ.out.cell (p := ⟨g2, o2 + j * 4 + 1, none⟩) hg2).trans q1
            have e2 := (HBJ.out.cell (p := ⟨g2, o2 + j * 4 + 2, none⟩) hg2).trans q2
            have e3 := (HBJ.out.cell (p := ⟨g2, o2 + j * 4 + 3, none⟩) hg2).trans q3
            clear q0 q1 q2 q3 hi4
            have hst := all_take (fun i => insOkF i C.length n) C i0 j hjl
            have hfl := all_false (fun i => insOkF i C.length n) C i0 j hjl
            rw [HAJ.out, Bool.true_and] at hst
            generalize C.getD j i0 = I at hst hfl e0 e1 e2 e3
            have HSJ : Hid ((C.take (j + 1)).all (fun i => insOkF i C.length n) = insOkF I C.length n) := hst
            have HFJ : Hid (insOkF I C.length n = false → C.all (fun i => insOkF i C.length n) = false) := hfl
            clear hst hfl HAJ
            have HJ0 : Hid (Below X.heap.size X wj) := hBj
            clear hBj
            go_wp2_with fail
            refine (insOk_any I n C.length _).mono ?_
            rintro e w2 ⟨rfl, hb2⟩
            have hbA : Below wj.heap.size wj w2 := ((Below.refl _ _).alloc (Nat.le_refl _) _).trans (hb2.mono (by simp))
            have hBB : Hid (Below x.heap.size x w2) := HBJ.out.trans (hbA.mono HBJ.out.size)
            have hBB2 : Hid (Below X.heap.size X w2) := HJ0.out.trans (hbA.mono HJ0.out.size)
            clear hb2 hbA
            cases hok : insOkF I C.length n
            · have HFA : Hid (P.all (fun c => codeOkF c n) = false) := HFL.out (by simp only [codeOkF, HFJ.out hok, Bool.and_false])
              go_wp2_with fail
              go_ret
              exact ⟨retBool HFA.out.symm, hBB.out⟩
            · have HSK : Hid ((C.take (j + 1)).all (fun i => insOkF i C.length n) = true) := HSJ.out.trans hok
              go_wp2_with fail
              go_roundw
              case rel => exact ⟨j + 1, by omega, by go_num, HSK.out, hBB2.out⟩
              case measure => simp [intOf]; omega
          · have hji : ¬ (j : Int) < (C.length : Int) := by omega
            have hca : codeOkF C n = true := by
              have := HAJ.out
              rw [List.take_of_length_le (by omega)] at this
              simp only [codeOkF, this, Bool.and_true, decide_eq_true_eq]
              exact h8
            have HSK : Hid ((P.take (k + 1)).all (fun c => codeOkF c n) = true) := HST.out.trans hca
            clear hca
            go_wp2_with fail
            go_roundw
            case rel => exact ⟨k + 1, by omega, by go_num, HSK.out, HBJ.out⟩
            case measure => simp [intOf]; omega
      · have h8i : (8 : Int) < C.length := by omega
        have hfa : P.all (fun c => codeOkF c n) = false := HFL.out (by simp [codeOkF]; omega)
        have HFA : Hid (P.all (fun c => codeOkF c n) = false) := hfa
        clear hfa
        unfold maxLen at hmk
        have hmi : (C.length : Int) ≤ 9223372036854775807 := by omega
        have hA : Below x.heap.size x (wr.alloc (.cells #[.slice pk C.length ck] 68)) := hB.alloc hB.size _
        go_wp2_with fail
        go_ret
        exact ⟨retBool HFA.out.symm, hA⟩
    · obtain rfl : k = n := by omega
      have hki : ¬ (k : Int) < (k : Int) := by omega
      have hfa : P.all (fun c => codeOkF c k) = true := by have := HAL.out; rw [List.take_of_length_le (by rw [HL.out]; omega)] at this; exact this
      have HFA : Hid (P.all (fun c => codeOkF c k) = true) := hfa
      clear hfa
      go_wp2_with fail
      go_ret
      exact ⟨retBool HFA.out.symm, hB⟩

set_option maxHeartbeats 1000000 in
theorem progOk_impl (x : World) (B : Nat) (v : Value) (P : List (List I4)) (h : ProgAt x B v P) :
    Calls Try.prog 53 #[v] x fun e y => e = .returned (.bool (progOkF P)) ∧ Below x.heap.size x y := by
  by_cases hr : 1 ≤ P.length ∧ P.length ≤ 4
  · rw [progOkF_in hr.1 hr.2]
    exact progOk_impl_in x B v P h hr.1 hr.2
  · rw [progOkF_out (by omega)]
    obtain ⟨p, cap, rfl, hm, _⟩ := h
    generalize P.length = n at *
    unfold maxLen at hm
    have hni : (n : Int) ≤ 9223372036854775807 := by omega
    by_cases h1 : (n : Int) < 1
    · go_enter Try.func53, Try.ntmps53
      go_wp2_with fail
      go_ret
      exact ⟨rfl, Below.refl _ _⟩
    · have h4 : (4 : Int) < (n : Int) := by omega
      clear hr hm
      go_enter Try.func53, Try.ntmps53
      go_wp2_with fail
      go_ret
      exact ⟨rfl, Below.refl _ _⟩

end Go.Proofs.Ytbjegekfghihkaa

/-
  The plain functions of words and spans that both the program and its model are shown to compute: no claim by itself.
-/
namespace Go.Proofs.Ytbjegekfghihkaa

/-- the word that a number is -/
def wrapF (n : Int) : Int := if n.tmod 32 < -16 then n.tmod 32 + 32 else if 15 < n.tmod 32 then n.tmod 32 - 32 else n.tmod 32
def inB (n lo hi : Int) : Bool := decide (lo ≤ n ∧ n ≤ hi)
def isW (n : Int) : Bool := decide (-16 ≤ n ∧ n ≤ 15)
/-- what an operation gives, ahead of wrapping -/
def rawF (op a b : Int) : Int :=
  if op = 1 then a + b else if op = 2 then a - b else if op = 3 then a * b else if op = 4 then a.tdiv b
  else if op = 5 then (if a < b then 1 else 0) else if op = 6 then (if a = b then 1 else 0) else 0
/-- whether an operation can be done with two words -/
def canF (op b : Int) : Bool := decide (1 ≤ op ∧ op ≤ 6 ∧ ¬ (op = 4 ∧ b = 0))
def doOk (op a b : Int) : Bool := isW a && isW b && canF op b
def doF (op a b : Int) : Int := if doOk op a b = true then wrapF (rawF op a b) else 0

/-- a span: whether there are any, the least, the greatest -/
abbrev Sp := Bool × Int × Int
def noSp : Sp := (false, 0, 0)
def okF (any : Bool) (lo hi : Int) : Bool := if any = true then decide (-16 ≤ lo ∧ lo ≤ 15 ∧ -16 ≤ hi ∧ hi ≤ 15 ∧ lo ≤ hi) else decide (lo = 0 ∧ hi = 0)
def ofF (n : Int) : Sp := if isW n = true then (true, n, n) else noSp
def hasF (any : Bool) (lo hi n : Int) : Bool := any && okF any lo hi && decide (lo ≤ n ∧ n ≤ hi)
def inF (a : Bool) (al ah : Int) (b : Bool) (bl bh : Int) : Bool :=
  okF a al ah && okF b bl bh && (!a || (b && decide (bl ≤ al ∧ ah ≤ bh)))
def mkF (lo hi : Int) : Sp := if hi < lo then noSp else (true, lo, hi)
def joinF (a : Bool) (al ah : Int) (b : Bool) (bl bh : Int) : Sp :=
  if (okF a al ah && okF b bl bh) = false then noSp
  else if a = false then (b, bl, bh) else if b = false then (a, al, ah) else (true, min al bl, max ah bh)
def bothF (a : Bool) (al ah : Int) (b : Bool) (bl bh : Int) : Bool := okF a al ah && okF b bl bh && a && b
def meetF (a : Bool) (al ah : Int) (b : Bool) (bl bh : Int) : Sp :=
  if bothF a al ah b bl bh = true then mkF (max al bl) (min ah bh) else noSp
def downF (n : Int) : Int := if 0 ≤ n then 0 else if -4 ≤ n then -4 else -16
def upF (n : Int) : Int := if n ≤ 0 then 0 else if n ≤ 4 then 4 else 15
def wideF (a : Bool) (al ah : Int) (b : Bool) (bl bh : Int) : Sp :=
  if bothF a al ah b bl bh = true then
    (true, (if min al bl < al then downF (min al bl) else min al bl), (if ah < max ah bh then upF (max ah bh) else max ah bh))
  else joinF a al ah b bl bh
def kindF (k : Int) : Sp := if k = 0 then (true, -16, -1) else if k = 1 then (true, 0, 0) else if k = 2 then (true, 1, 15) else noSp

theorem wrapF_bd (n : Int) : -16 ≤ wrapF n ∧ wrapF n ≤ 15 := by
  unfold wrapF
  have h := Int.tmod_lt_of_pos n (b := 32) (by omega)
  have h2 := Int.lt_tmod_of_pos n (b := 32) (by omega)
  repeat' split
  all_goals omega

end Go.Proofs.Ytbjegekfghihkaa
