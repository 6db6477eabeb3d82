/-
  The contract of the program's iterator over the spans of two states (pairs).
-/
import Derived.RangeFuncNested
import Derived.RangeFuncBound
import Derived.RangeFuncCalls
import Derived.RangeFuncLeaves
import Derived.Shelf.Abstract
import Derived.Shelf.RegionOpen
import Derived.WalkKit
import Derived.OwnWalkIn
import Derived.TacticsInMore
import Derived.LoopNIn
import Derived.LoopIn
import Derived.Test.YtbmjjmbimfdkoaaSMem
namespace Go.Proofs.Ytbmjjmbimfdkoaa
open Go.RowKit Go.Shelf
set_option linter.unusedVariables false
set_option linter.unusedSimpArgs false
attribute [local go_sem] Oper.semAt_some

def upto {α : Type} (f : Nat → α) (k : Nat) : List α := (List.range k).map f
theorem upto_succ {α : Type} (f : Nat → α) (k : Nat) : upto f (k + 1) = upto f k ++ [f k] := by simp [upto, List.range_succ]
theorem upto_length {α : Type} (f : Nat → α) (k : Nat) : (upto f k).length = k := by simp [upto]

/-- the pairs of spans of two states, by number -/
def pairF (L M : List Sp) (c d : Sp) (k : Nat) : Sp × Sp := if k < 3 then (L.getD k noSp, M.getD k noSp) else (c, d)
def encP (x : Sp × Sp) : Array Value := #[.agg #[.bool x.1.1, .int .i64 x.1.2.1, .int .i64 x.1.2.2], .agg #[.bool x.2.1, .int .i64 x.2.2.1, .int .i64 x.2.2.2]]
/-- what the iterator reads: the two boxes and the two rows, all below N -/
structure PairsAt (W : World) (N Ba Bb : Nat) (L M : List Sp) (c d : Sp) (g o cap g' o' cap' : Nat) : Prop where
  ba : Ba < N
  bb : Bb < N
  hg : g < N
  hg' : g' < N
  a1 : W.cell? ⟨Ba, 1, none⟩ = some (.slice (some ⟨g, o, none⟩) 3 cap)
  a2 : W.cell? ⟨Ba, 2, none⟩ = some (.bool c.1)
  a3 : W.cell? ⟨Ba, 3, none⟩ = some (.int .i64 c.2.1)
  a4 : W.cell? ⟨Ba, 4, none⟩ = some (.int .i64 c.2.2)
  b1 : W.cell? ⟨Bb, 1, none⟩ = some (.slice (some ⟨g', o', none⟩) 3 cap')
  b2 : W.cell? ⟨Bb, 2, none⟩ = some (.bool d.1)
  b3 : W.cell? ⟨Bb, 3, none⟩ = some (.int .i64 d.2.1)
  b4 : W.cell? ⟨Bb, 4, none⟩ = some (.int .i64 d.2.2)
  l : ∀ j, j < 3 → Spn W g (o + j * 3) (L.getD j noSp)
  m : ∀ j, j < 3 → Spn W g' (o' + j * 3) (M.getD j noSp)
theorem Spn.below {x y : World} {g o N : Nat} {s : Sp} (h : Spn x g o s) (hb : Below N x y) (hg : g < N) : Spn y g o s :=
  ⟨(hb.cell (p := ⟨g, _, none⟩) hg).trans h.c0, (hb.cell (p := ⟨g, _, none⟩) hg).trans h.c1, (hb.cell (p := ⟨g, _, none⟩) hg).trans h.c2⟩
theorem PairsAt.below {W W' : World} {N Ba Bb : Nat} {L M : List Sp} {c d : Sp} {g o cap g' o' cap' : Nat} (h : PairsAt W N Ba Bb L M c d g o cap g' o' cap') (hb : Below N W W') : PairsAt W' N Ba Bb L M c d g o cap g' o' cap' :=
  ⟨h.ba, h.bb, h.hg, h.hg', (hb.cell (p := ⟨Ba, _, none⟩) h.ba).trans h.a1, (hb.cell (p := ⟨Ba, _, none⟩) h.ba).trans h.a2, (hb.cell (p := ⟨Ba, _, none⟩) h.ba).trans h.a3, (hb.cell (p := ⟨Ba, _, none⟩) h.ba).trans h.a4,
    (hb.cell (p := ⟨Bb, _, none⟩) h.bb).trans h.b1, (hb.cell (p := ⟨Bb, _, none⟩) h.bb).trans h.b2, (hb.cell (p := ⟨Bb, _, none⟩) h.bb).trans h.b3, (hb.cell (p := ⟨Bb, _, none⟩) h.bb).trans h.b4,
    fun j hj => (h.l j hj).below hb h.hg, fun j hj => (h.m j hj).below hb h.hg'⟩

theorem one_way {e : Ending} {A B : Prop} (h : (e = .returned (.bool true) ∧ A) ∨ (e = .returned (.bool false) ∧ B)) : ∃ b : Bool, e = .returned (.bool b) ∧ Hid ((b = true ∧ A) ∨ (b = false ∧ B)) := by
  rcases h with ⟨h, a⟩ | ⟨h, b⟩
  · exact ⟨true, h, .inl ⟨rfl, a⟩⟩
  · exact ⟨false, h, .inr ⟨rfl, b⟩⟩

set_option maxRecDepth 100000 in
set_option maxHeartbeats 4000000 in
theorem pairs1_in (n : Nat) (hn : 1 ≤ n) (q Ba Bb N : Nat) (L M : List Sp) (c d : Sp) (g o cap g' o' cap' : Nat) (J Jx : List (Sp × Sp) → World → Prop)
    (hAb : ∀ (pre : List (Sp × Sp)) (W : World), J pre W → J pre W.drew)
    (hY : ∀ pre x W, J pre W → pre.length < 4 → YieldAt Fence.wide (n - 1) Try.prog q (encP x) W fun e W' =>
      (e = .returned (.bool true) ∧ J (pre ++ [x]) W' ∧ Below N W W') ∨ (e = .returned (.bool false) ∧ Jx (pre ++ [x]) W'))
    (W : World) (hP : PairsAt W N Ba Bb L M c d g o cap g' o' cap') (h0 : J [] W) :
    CallsIn Fence.wide n Try.prog 75 #[.func (.yield q) #[] #[], .pointer (some ⟨Ba, 0, none⟩), .pointer (some ⟨Bb, 0, none⟩)] W fun e W' => (∃ v, e = .returned v) ∧
      ((∃ ys, ys = upto (pairF L M c d) 4 ∧ J ys W') ∨ (∃ pre, (∃ k, k ≤ 4 ∧ pre = upto (pairF L M c d) k) ∧ Jx pre W')) := by
  refine callsIn_of_wp Try.func75 rfl trivial ?_ rfl
  simp only [Try.ntmps75, List.size_toArray, List.length_cons, List.length_nil, Nat.reduceAdd, Nat.reduceSub, Array.replicate_succ, Array.replicate_zero, List.push_toArray, List.append_toArray, List.nil_append, List.cons_append]
  have a1 := hP.a1
  gi_wp2
  gi_loopw [8] (fun i wr => ∃ k : Nat, k ≤ 3 ∧ i = .int .i64 k ∧ J (upto (pairF L M c d) k) wr ∧ PairsAt wr N Ba Bb L M c d g o cap g' o' cap')
    (fun i _ => 3 - (intOf i).toNat)
  case atStart => exact ⟨0, Nat.zero_le _, rfl, h0, hP⟩
  case round =>
    clear a1
    obtain ⟨k, hk, rfl, hJs, hQ⟩ := hrel
    by_cases hlt : k < 3
    · have hki : (k : Int) < 3 := by omega
      have a1 := hQ.a1
      have b1 := hQ.b1
      obtain ⟨q0, q1, q2⟩ := hQ.l k hlt
      obtain ⟨r0, r1, r2⟩ := hQ.m k hlt
      have e1 : pairF L M c d k = (L.getD k noSp, M.getD k noSp) := if_pos hlt
      generalize hI : L.getD k noSp = I at q0 q1 q2 e1
      generalize hK : M.getD k noSp = K at r0 r1 r2 e1
      clear hI hK
      obtain ⟨i0, i1, i2⟩ := I
      obtain ⟨k0, k1, k2⟩ := K
      simp only at q0 q1 q2 r0 r1 r2
      obtain ⟨fn, tmps, assign, body, hy, hR⟩ := hY _ ((i0, i1, i2), (k0, k1, k2)) wr.drew (hAb _ _ hJs) (by rw [upto_length]; omega)
      unfold encP at hy
      dsimp only at hy
      gi_wp2
      have hmx : Try.prog.follows .mixedOrders = true := by kernel_rfl
      gi_region_with_o (refine hR.mono ?_; rintro e W3 hh; have hh1 := one_way hh; clear hh; obtain ⟨b, rfl, hh3⟩ := hh1)
      all_goals
        clear hmx hY hy hR
        rcases hh3.out with ⟨rfl, hJ3, hk3⟩ | ⟨rfl, hJx3⟩
        · clear hh3 a1 b1 q0 q1 q2 r0 r1 r2
          gi_wp2
          go_roundw
          case rel => exact ⟨k + 1, by omega, by simp, by rw [upto_succ, e1]; exact hJ3, hQ.below (((Below.refl _ _).drew).trans hk3)⟩
          case measure => simp [intOf]; omega
        · clear hh3 a1 b1 q0 q1 q2 r0 r1 r2
          gi_wp2
          refine bodyPost_ret (results_none rfl _ _ _) rfl ?_
          exact ⟨⟨_, rfl⟩, .inr ⟨_, ⟨k + 1, by omega, by rw [upto_succ, e1]⟩, hJx3⟩⟩
    · obtain rfl : k = 3 := by omega
      have e1 : pairF L M c d 3 = (c, d) := if_neg (by omega)
      obtain ⟨c0, c1, c2⟩ := c
      obtain ⟨d0, d1, d2⟩ := d
      have a2 := hQ.a2
      have a3 := hQ.a3
      have a4 := hQ.a4
      have b2 := hQ.b2
      have b3 := hQ.b3
      have b4 := hQ.b4
      simp only at a2 a3 a4 b2 b3 b4
      obtain ⟨fn, tmps, assign, body, hy, hR⟩ := hY _ ((c0, c1, c2), (d0, d1, d2)) wr hJs (by rw [upto_length]; omega)
      unfold encP at hy
      dsimp only at hy
      gi_wp2
      refine hR.mono ?_
      rintro e W3 (⟨rfl, hJ3, hk3⟩ | ⟨rfl, hJx3⟩)
      · gi_wp2
        go_end0
        exact ⟨⟨_, rfl⟩, .inl ⟨_, rfl, by rw [upto_succ _ 3, e1]; exact hJ3⟩⟩
      · gi_wp2
        go_end0
        exact ⟨⟨_, rfl⟩, .inr ⟨_, ⟨4, by omega, by rw [upto_succ _ 3, e1]⟩, hJx3⟩⟩

theorem pairs_stops (n : Nat) (hn : 1 ≤ n) (Ba Bb N : Nat) (L M : List Sp) (c d : Sp) (g o cap g' o' cap' : Nat) (w : World) (hN : N ≤ w.heap.size) (hP : PairsAt w N Ba Bb L M c d g o cap g' o' cap') :
    SeqStopsK Fence.wide n Try.prog 75 #[.pointer (some ⟨Ba, 0, none⟩), .pointer (some ⟨Bb, 0, none⟩)] encP (Below N) (fun ys => ys = upto (pairF L M c d) 4) (fun pre => ∃ k, k ≤ 4 ∧ pre = upto (pairF L M c d) k) 4 w := fun l J Jx W hW hA _ hY h0 =>
  pairs1_in n hn l Ba Bb N L M c d g o cap g' o' cap' J Jx (fun pre X hX => hA pre X X.drew none hX ⟨rfl, rfl, rfl, Nat.le_refl _, fun _ _ _ => rfl⟩ (fun r e => by cases e)) hY W (hP.below (hW.mono hN)) h0

set_option maxHeartbeats 1000000 in
theorem pairs_any (w : World) (a : Bool) (v : Value) (c : Bool) (l u : Int) (b : Bool) (v' : Value) (d : Bool) (l' u' : Int) (hv : v.oneCell' = true) (hv' : v'.oneCell' = true) :
    Calls Try.prog 60 #[.agg #[.bool a, v, .bool c, .int .i64 l, .int .i64 u], .agg #[.bool b, v', .bool d, .int .i64 l', .int .i64 u']] w fun e w' =>
      e = .returned (.func (.func 75) #[] #[.pointer (some ⟨w.heap.size, 0, none⟩), .pointer (some ⟨w.heap.size + 1, 0, none⟩)]) ∧ w' = (w.alloc (.cells #[.bool a, v, .bool c, .int .i64 l, .int .i64 u] 32)).alloc (.cells #[.bool b, v', .bool d, .int .i64 l', .int .i64 u'] 32) := by
  go_enter Try.func60, Try.ntmps60
  go_wp2
  go_ret
  exact ⟨rfl, rfl⟩
end Go.Proofs.Ytbmjjmbimfdkoaa
