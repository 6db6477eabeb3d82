/-
  All but one block keeps; the program's iterator over two states' spans (pairs), where a round may write one box.
-/
import Derived.Test.YtbmjjmbimfdkoaaSPairs
import Derived.Test.YtbmjjmbimfdkoaaSInv
import Derived.RangeFuncBox
namespace Go.Proofs.Ytbmjjmbimfdkoaa
open Go.RowKit Go.Shelf
set_option linter.unusedVariables false
set_option linter.unusedSimpArgs false
attribute [local go_sem] Oper.semAt_some

/-- ahead of N nothing has changed but block m -/
structure But (N m : Nat) (X Y : World) : Prop where
  os : Y.os = X.os
  tape : Y.tape = X.tape
  output : Y.output = X.output
  size : X.heap.size ≤ Y.heap.size
  block : ∀ k, k < N → k ≠ m → Y.heap[k]? = X.heap[k]?
theorem But.refl (N m : Nat) (X : World) : But N m X X := ⟨rfl, rfl, rfl, Nat.le_refl _, fun _ _ _ => rfl⟩
theorem But.trans {N m : Nat} {X Y Z : World} (h : But N m X Y) (k : But N m Y Z) : But N m X Z := ⟨k.os.trans h.os, k.tape.trans h.tape, k.output.trans h.output, Nat.le_trans h.size k.size, fun j hj hm => (k.block j hj hm).trans (h.block j hj hm)⟩
theorem But.below {N m : Nat} {X Y : World} (h : Below N X Y) : But N m X Y := ⟨h.os, h.tape, h.output, h.size, fun k hk _ => h.block k hk⟩
theorem But.cell {N m : Nat} {X Y : World} (h : But N m X Y) {p : Addr} (hp : p.block < N) (hm : p.block ≠ m) : Y.cell? p = X.cell? p := by
  unfold World.cell?
  rw [h.block _ hp hm]
theorem But.frozen {N m : Nat} {X Y : World} (h : But N m X Y) {p : Addr} (hp : p.block < N) (hm : p.block ≠ m) : Y.frozen? p = X.frozen? p := by
  unfold World.frozen?
  rw [h.block _ hp hm]
theorem But.boxed {N m : Nat} {X Y : World} (h : But N m X Y) {B : Nat} {t : TypeId} {v : Value} (hb : Boxed X B t v) (hB : B < N) (hm : B ≠ m) : Boxed Y B t v := (h.block B hB hm).trans hb
theorem But.bx5 {N m : Nat} {X Y : World} (h : But N m X Y) {B : Nat} {v0 v1 v2 v3 v4 : Value} (hb : Bx5 X B v0 v1 v2 v3 v4) (hB : B < N) (hm : B ≠ m) : Bx5 Y B v0 v1 v2 v3 v4 :=
  ⟨Nat.lt_of_lt_of_le hb.lt h.size, (h.cell (p := ⟨B, 0, none⟩) hB hm).trans hb.c0, (h.cell (p := ⟨B, 1, none⟩) hB hm).trans hb.c1, (h.cell (p := ⟨B, 2, none⟩) hB hm).trans hb.c2, (h.cell (p := ⟨B, 3, none⟩) hB hm).trans hb.c3, (h.cell (p := ⟨B, 4, none⟩) hB hm).trans hb.c4, fun k => (h.frozen (p := ⟨B, k, none⟩) hB hm).trans (hb.fz k)⟩
theorem butK_t {N m : Nat} {A B C : World} (h : But N m A B) (k : But N m B C) : But N m A C := h.trans k
theorem butK_b {N m : Nat} {w : World} (hn : N ≤ w.heap.size) (W : World) (l : Nat) (o o' : Obj) (hl : w.heap.size ≤ l) (h : W.heap[l]? = some o) (_ : o.isCells = false) (_ : o.isWalk = false) : But N m W (W.putObj l o') :=
  But.below ((Below.refl N W).grown (grownBy_putObj' W l o') (by have := (Array.getElem?_eq_some_iff.1 h).1; omega) (fun k e => by cases e; omega))
theorem ownFrom_but {β : Type} {N m B : Nat} {w₀ : World} (hn : N ≤ w₀.heap.size) (hB : N ≤ B) : OwnFrom B (fun (_ : β) W => But N m w₀ W) := fun s W W' row hs hg hr =>
  ⟨hg.os.trans hs.os, hg.tape.trans hs.tape, hg.output.trans hs.output, Nat.le_trans hs.size hg.size, fun k hk hm => (hg.block k (Nat.lt_of_lt_of_le (Nat.lt_of_lt_of_le hk hn) hs.size) (fun e => by have := (hr k e.symm).1; omega)).trans (hs.block k hk hm)⟩
/-- what is but one block's turn ahead of n, where that block is not ahead of n, is nothing's turn -/
theorem But.below_of {N m n : Nat} {X Y : World} (h : But N m X Y) (hn : n ≤ N) (hm : n ≤ m) : Below n X Y := ⟨h.os, h.tape, h.output, h.size, fun k hk => h.block k (by omega) (by omega)⟩
theorem But.set {N m : Nat} {X Y : World} (h : But N m X Y) (o : Nat) (v : Value) : But N m X (Y.setCell ⟨m, o, none⟩ v) :=
  ⟨h.os, h.tape, h.output, by simpa using h.size, fun k hk hm => (Below.heap_setCell Y ⟨m, o, none⟩ v k hm).trans (h.block k hk hm)⟩
theorem PairsAt.but {W W' : World} {N m Ba Bb : Nat} {L M : List Sp} {c d : Sp} {g o cap g' o' cap' : Nat} (h : PairsAt W N Ba Bb L M c d g o cap g' o' cap') (hb : But N m W W') (ha : Ba ≠ m) (hb' : Bb ≠ m) (hg : g ≠ m) (hg' : g' ≠ m) : PairsAt W' N Ba Bb L M c d g o cap g' o' cap' :=
  ⟨h.ba, h.bb, h.hg, h.hg', (hb.cell (p := ⟨Ba, _, none⟩) h.ba ha).trans h.a1, (hb.cell (p := ⟨Ba, _, none⟩) h.ba ha).trans h.a2, (hb.cell (p := ⟨Ba, _, none⟩) h.ba ha).trans h.a3, (hb.cell (p := ⟨Ba, _, none⟩) h.ba ha).trans h.a4,
    (hb.cell (p := ⟨Bb, _, none⟩) h.bb hb').trans h.b1, (hb.cell (p := ⟨Bb, _, none⟩) h.bb hb').trans h.b2, (hb.cell (p := ⟨Bb, _, none⟩) h.bb hb').trans h.b3, (hb.cell (p := ⟨Bb, _, none⟩) h.bb hb').trans h.b4,
    fun j hj => ⟨(hb.cell (p := ⟨g, _, none⟩) h.hg hg).trans (h.l j hj).c0, (hb.cell (p := ⟨g, _, none⟩) h.hg hg).trans (h.l j hj).c1, (hb.cell (p := ⟨g, _, none⟩) h.hg hg).trans (h.l j hj).c2⟩,
    fun j hj => ⟨(hb.cell (p := ⟨g', _, none⟩) h.hg' hg').trans (h.m j hj).c0, (hb.cell (p := ⟨g', _, none⟩) h.hg' hg').trans (h.m j hj).c1, (hb.cell (p := ⟨g', _, none⟩) h.hg' hg').trans (h.m j hj).c2⟩⟩

set_option maxRecDepth 100000 in
set_option maxHeartbeats 4000000 in
theorem pairs2_in (n : Nat) (hn : 1 ≤ n) (q Ba Bb N : Nat) (L M : List Sp) (c d : Sp) (g o cap g' o' cap' : Nat) (mb : Nat) (hne : Ba ≠ mb ∧ Bb ≠ mb ∧ g ≠ mb ∧ g' ≠ mb) (J Jx : List (Sp × Sp) → World → Prop)
    (hAb : ∀ (pre : List (Sp × Sp)) (W : World), J pre W → J pre W.drew)
    (hY : ∀ pre x W, J pre W → pre.length < 4 → YieldAt Fence.wide (n - 1) Try.prog q (encP x) W fun e W' =>
      (e = .returned (.bool true) ∧ J (pre ++ [x]) W' ∧ But N mb W W') ∨ (e = .returned (.bool false) ∧ Jx (pre ++ [x]) W'))
    (W : World) (hP : PairsAt W N Ba Bb L M c d g o cap g' o' cap') (h0 : J [] W) :
    CallsIn Fence.wide n Try.prog 75 #[.func (.yield q) #[] #[], .pointer (some ⟨Ba, 0, none⟩), .pointer (some ⟨Bb, 0, none⟩)] W fun e W' => (∃ v, e = .returned v) ∧
      ((∃ ys, ys = upto (pairF L M c d) 4 ∧ J ys W') ∨ (∃ pre, (∃ k, k ≤ 4 ∧ pre = upto (pairF L M c d) k) ∧ Jx pre W')) := by
  refine callsIn_of_wp Try.func75 rfl trivial ?_ rfl
  simp only [Try.ntmps75, List.size_toArray, List.length_cons, List.length_nil, Nat.reduceAdd, Nat.reduceSub, Array.replicate_succ, Array.replicate_zero, List.push_toArray, List.append_toArray, List.nil_append, List.cons_append]
  have a1 := hP.a1
  gi_wp2
  gi_loopw [8] (fun i wr => ∃ k : Nat, k ≤ 3 ∧ i = .int .i64 k ∧ J (upto (pairF L M c d) k) wr ∧ PairsAt wr N Ba Bb L M c d g o cap g' o' cap')
    (fun i _ => 3 - (intOf i).toNat)
  case atStart => exact ⟨0, Nat.zero_le _, rfl, h0, hP⟩
  case round =>
    clear a1
    obtain ⟨k, hk, rfl, hJs, hQ⟩ := hrel
    by_cases hlt : k < 3
    · have hki : (k : Int) < 3 := by omega
      have a1 := hQ.a1
      have b1 := hQ.b1
      obtain ⟨q0, q1, q2⟩ := hQ.l k hlt
      obtain ⟨r0, r1, r2⟩ := hQ.m k hlt
      have e1 : pairF L M c d k = (L.getD k noSp, M.getD k noSp) := if_pos hlt
      generalize hI : L.getD k noSp = I at q0 q1 q2 e1
      generalize hK : M.getD k noSp = K at r0 r1 r2 e1
      clear hI hK
      obtain ⟨i0, i1, i2⟩ := I
      obtain ⟨k0, k1, k2⟩ := K
      simp only at q0 q1 q2 r0 r1 r2
      obtain ⟨fn, tmps, assign, body, hy, hR⟩ := hY _ ((i0, i1, i2), (k0, k1, k2)) wr.drew (hAb _ _ hJs) (by rw [upto_length]; omega)
      unfold encP at hy
      dsimp only at hy
      gi_wp2
      have hmx : Try.prog.follows .mixedOrders = true := by kernel_rfl
      gi_region_with_o (refine hR.mono ?_; rintro e W3 hh; have hh1 := one_way hh; clear hh; obtain ⟨b, rfl, hh3⟩ := hh1)
      all_goals
        clear hmx hY hy hR
        rcases hh3.out with ⟨rfl, hJ3, hk3⟩ | ⟨rfl, hJx3⟩
        · clear hh3 a1 b1 q0 q1 q2 r0 r1 r2
          gi_wp2
          go_roundw
          case rel => exact ⟨k + 1, by omega, by simp, by rw [upto_succ, e1]; exact hJ3, hQ.but ((But.below (Below.refl _ _).drew).trans hk3) hne.1 hne.2.1 hne.2.2.1 hne.2.2.2⟩
          case measure => simp [intOf]; omega
        · clear hh3 a1 b1 q0 q1 q2 r0 r1 r2
          gi_wp2
          refine bodyPost_ret (results_none rfl _ _ _) rfl ?_
          exact ⟨⟨_, rfl⟩, .inr ⟨_, ⟨k + 1, by omega, by rw [upto_succ, e1]⟩, hJx3⟩⟩
    · obtain rfl : k = 3 := by omega
      have e1 : pairF L M c d 3 = (c, d) := if_neg (by omega)
      obtain ⟨c0, c1, c2⟩ := c
      obtain ⟨d0, d1, d2⟩ := d
      have a2 := hQ.a2
      have a3 := hQ.a3
      have a4 := hQ.a4
      have b2 := hQ.b2
      have b3 := hQ.b3
      have b4 := hQ.b4
      simp only at a2 a3 a4 b2 b3 b4
      obtain ⟨fn, tmps, assign, body, hy, hR⟩ := hY _ ((c0, c1, c2), (d0, d1, d2)) wr hJs (by rw [upto_length]; omega)
      unfold encP at hy
      dsimp only at hy
      gi_wp2
      refine hR.mono ?_
      rintro e W3 (⟨rfl, hJ3, hk3⟩ | ⟨rfl, hJx3⟩)
      · gi_wp2
        go_end0
        exact ⟨⟨_, rfl⟩, .inl ⟨_, rfl, by rw [upto_succ _ 3, e1]; exact hJ3⟩⟩
      · gi_wp2
        go_end0
        exact ⟨⟨_, rfl⟩, .inr ⟨_, ⟨4, by omega, by rw [upto_succ _ 3, e1]⟩, hJx3⟩⟩

theorem pairs2_stops (n : Nat) (hn : 1 ≤ n) (Ba Bb N : Nat) (L M : List Sp) (c d : Sp) (g o cap g' o' cap' : Nat) (mb : Nat) (hne : Ba ≠ mb ∧ Bb ≠ mb ∧ g ≠ mb ∧ g' ≠ mb) (w : World) (hN : N ≤ w.heap.size) (hP : PairsAt w N Ba Bb L M c d g o cap g' o' cap') :
    SeqStopsK Fence.wide n Try.prog 75 #[.pointer (some ⟨Ba, 0, none⟩), .pointer (some ⟨Bb, 0, none⟩)] encP (But N mb) (fun ys => ys = upto (pairF L M c d) 4) (fun pre => ∃ k, k ≤ 4 ∧ pre = upto (pairF L M c d) k) 4 w := fun l J Jx W hW hA _ hY h0 =>
  pairs2_in n hn l Ba Bb N L M c d g o cap g' o' cap' mb hne J Jx (fun pre X hX => hA pre X X.drew none hX ⟨rfl, rfl, rfl, Nat.le_refl _, fun _ _ _ => rfl⟩ (fun r e => by cases e)) hY W (hP.below (hW.mono hN)) h0

end Go.Proofs.Ytbmjjmbimfdkoaa
