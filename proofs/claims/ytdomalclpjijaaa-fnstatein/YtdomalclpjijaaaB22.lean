import Derived.Test.YtdomalclpjijaaaB12
import Derived.OrdersIn
import Derived.RangeFuncCalls
import Derived.TacticsIn
import Derived.Test.YtdomalclpjijaaaB16
import Derived.RangeFuncBox
import Derived.Test.YtdomalclpjijaaaB21
import Derived.Test.YtdomalclpjijaaaB17
/-
  A region that draws its order, in a round of a loop over a function: by a condition on what has come up, one step an operation.
-/
namespace Go.Proofs.Ytdomalclpjijaaa
open Go.RowKit
set_option linter.unusedVariables false
set_option linter.unusedSimpArgs false

section
variable {P : Program} {ops : Array Oper} {Q : Exit → Act → World → Prop} {md : Region.Mode}

theorem upon_in {o : Oper} {a : Act} {K : Act → World → Prop} {l n : Nat} {r : Result Next} (h : o.upon P a K Q r) : o.uponIn (Fence.wide.inRound l) n P a K Q r := by
  cases r with
  | ok x w' =>
    cases x <;> first
      | exact h
      | exact False.elim h
      | exact ⟨fun h => (by cases h), (callsIn_wide.2 h).inRound l⟩
      | exact ⟨fun h => (by cases h), fun c cs _ => let ⟨v, w', r, s⟩ := h c cs; ⟨v, w', r, stepsIn_wide.2 s⟩⟩
  | halt x w' => cases x <;> first | exact h | exact False.elim h

theorem wp_in {o : Oper} {a : Act} {w : World} {K : Act → World → Prop} {l n : Nat} (hnd : ∀ c, o.op ≠ Op.defer c) (h : o.wp P a w K Q) : o.wpIn (Fence.wide.inRound l) n P a w K Q := by
  refine ⟨fun _ _ => trivial, ?_⟩
  rw [Fence.inRound_round, Oper.semAt_some l _ _ hnd]
  exact upon_in h

theorem wpAnyIn_inv {F : Fence} {n : Nat} (hbk : backB md ops = true) (I : Array Bool → Act → World → Prop)
    (step : ∀ listed a w, I listed a w → ∀ (i : Nat) (o : Oper), ops[i]? = some o → listed.getD i true = false → (∀ e ∈ o.after, Region.binds md e = true → listed.getD e.on false = true) → wpOpIn F n P ops Q i (I (listed.setIfInBounds i true)) a w)
    (fin : ∀ listed a w, I listed a w → (∀ i, i < ops.size → listed.getD i true = true) → Q .normal a w) :
    ∀ (fuel : Nat) (listed : Array Bool) (a : Act) (w : World), listed.size = ops.size → (List.range ops.size).countP (fun i => !listed.getD i true) ≤ fuel → I listed a w → wpAnyIn F n P md ops Q fuel listed a w
  | 0, listed, a, w, hs, hc, hI => by
    have hall : ∀ i, i < ops.size → listed.getD i true = true := fun i hi => by
      have h0 : (List.range ops.size).countP (fun i => !listed.getD i true) = 0 := by omega
      rw [List.countP_eq_zero] at h0
      have := h0 i (List.mem_range.2 hi)
      simpa using this
    refine ⟨?_, fin _ _ _ hI hall⟩
    unfold Region.ready
    rw [List.filter_eq_nil_iff]
    intro i hi
    rw [hall i (List.mem_range.1 hi)]
    simp
  | fuel + 1, listed, a, w, hs, hc, hI => by
    refine ⟨fun hr => fin _ _ _ hI fun i hi => all_listed hbk hs hr (i + 1) i (by omega) hi, fun i hi => ?_⟩
    obtain ⟨hun, o, ho, hpre⟩ := mem_ready.1 hi
    refine wpOpIn_mono (fun a' w' h' => wpAnyIn_inv hbk I step fin fuel _ a' w' (by simpa using hs) ?_ h') (step _ _ _ hI i o ho hun hpre)
    have hi' : i < ops.size := (Array.getElem?_eq_some_iff.1 ho).1
    have hlt := cnt_lt (p := fun j => !listed.getD j true) (q := fun j => !(listed.setIfInBounds i true).getD j true) (i := i) (List.range ops.size) (List.mem_range.2 hi') (by simp only [hun]; rfl) (by
      have : i < listed.size := by omega
      simp [this]) (fun j hj => by
        by_cases hij : i = j
        · subst hij
          have : i < listed.size := by omega
          simp [this] at hj
        · simp only [getD_set_ne true hij] at hj; exact hj)
    omega

/-- in a round at the wide fence: each operation by the plain calculus -/
theorem wpIn_round_inv {l n : Nat} {id : Nat} {a : Act} {w : World} (hm : P.follows .mixedOrders = true) (hbk : backB .any ops = true) (hg : ∀ (i : Nat) (o : Oper), ops[i]? = some o → o.guard = none ∧ ∀ c, o.op ≠ Op.defer c) (I : Array Bool → Act → World → Prop)
    (start : I (Array.replicate ops.size false) a w.drew)
    (step : ∀ listed a w, I listed a w → ∀ (i : Nat) (o : Oper), ops[i]? = some o → listed.getD i true = false → (∀ e ∈ o.after, Region.binds .any e = true → listed.getD e.on false = true) → ∀ K : Act → World → Prop, (∀ a' w', I (listed.setIfInBounds i true) a' w' → K a' w') → o.wp P a w K Q)
    (fin : ∀ listed a w, I listed a w → (∀ i, i < ops.size → listed.getD i true = true) → Q .normal a w) : (Code.region id ops true).wpIn (Fence.wide.inRound l) n P Q a w :=
  wpIn_region_any hm (wpAnyIn_inv hbk I (fun listed a w hI i o ho hun hpre => by
    unfold wpOpIn
    rw [ho]
    have hw : Region.wanted o (yielded ops a.tmps) = true := by unfold Region.wanted; rw [(hg i o ho).1]
    simp only [hw, if_true]
    exact wp_in (hg i o ho).2 (step listed a w hI i o ho hun hpre _ fun _ _ q => q)) fin _ _ _ _ (by simp) (by
    have := List.countP_le_length (p := fun i => !(Array.replicate ops.size false).getD i true) (l := List.range ops.size)
    simpa using this) start)
end
end Go.Proofs.Ytdomalclpjijaaa

/-
  All but one block keeps; the program's iterator over two states' spans (pairs), where a round may write one box.
-/
namespace Go.Proofs.Ytdomalclpjijaaa
open Go.RowKit Go.Shelf
set_option linter.unusedVariables false
set_option linter.unusedSimpArgs false
attribute [local go_sem] Oper.semAt_some

/-- ahead of N nothing has changed but block m -/
structure But (N m : Nat) (X Y : World) : Prop where
  os : Y.os = X.os
  tape : Y.tape = X.tape
  output : Y.output = X.output
  size : X.heap.size ≤ Y.heap.size
  block : ∀ k, k < N → k ≠ m → Y.heap[k]? = X.heap[k]?
theorem But.refl (N m : Nat) (X : World) : But N m X X := ⟨rfl, rfl, rfl, Nat.le_refl _, fun _ _ _ => rfl⟩
theorem But.trans {N m : Nat} {X Y Z : World} (h : But N m X Y) (k : But N m Y Z) : But N m X Z := ⟨k.os.trans h.os, k.tape.trans h.tape, k.output.trans h.output, Nat.le_trans h.size k.size, fun j hj hm => (k.block j hj hm).trans (h.block j hj hm)⟩
theorem But.below {N m : Nat} {X Y : World} (h : Below N X Y) : But N m X Y := ⟨h.os, h.tape, h.output, h.size, fun k hk _ => h.block k hk⟩
theorem But.cell {N m : Nat} {X Y : World} (h : But N m X Y) {p : Addr} (hp : p.block < N) (hm : p.block ≠ m) : Y.cell? p = X.cell? p := by
  unfold World.cell?
  rw [h.block _ hp hm]
theorem But.frozen {N m : Nat} {X Y : World} (h : But N m X Y) {p : Addr} (hp : p.block < N) (hm : p.block ≠ m) : Y.frozen? p = X.frozen? p := by
  unfold World.frozen?
  rw [h.block _ hp hm]
theorem But.boxed {N m : Nat} {X Y : World} (h : But N m X Y) {B : Nat} {t : TypeId} {v : Value} (hb : Boxed X B t v) (hB : B < N) (hm : B ≠ m) : Boxed Y B t v := (h.block B hB hm).trans hb
theorem But.bx5 {N m : Nat} {X Y : World} (h : But N m X Y) {B : Nat} {v0 v1 v2 v3 v4 : Value} (hb : Bx5 X B v0 v1 v2 v3 v4) (hB : B < N) (hm : B ≠ m) : Bx5 Y B v0 v1 v2 v3 v4 :=
  ⟨Nat.lt_of_lt_of_le hb.lt h.size, (h.cell (p := ⟨B, 0, none⟩) hB hm).trans hb.c0, (h.cell (p := ⟨B, 1, none⟩) hB hm).trans hb.c1, (h.cell (p := ⟨B, 2, none⟩) hB hm).trans hb.c2, (h.cell (p := ⟨B, 3, none⟩) hB hm).trans hb.c3, (h.cell (p := ⟨B, 4, none⟩) hB hm).trans hb.c4, fun k => (h.frozen (p := ⟨B, k, none⟩) hB hm).trans (hb.fz k)⟩
theorem butK_t {N m : Nat} {A B C : World} (h : But N m A B) (k : But N m B C) : But N m A C := h.trans k
theorem butK_b {N m : Nat} {w : World} (hn : N ≤ w.heap.size) (W : World) (l : Nat) (o o' : Obj) (hl : w.heap.size ≤ l) (h : W.heap[l]? = some o) (_ : o.isCells = false) (_ : o.isWalk = false) : But N m W (W.putObj l o') :=
  But.below ((Below.refl N W).grown (grownBy_putObj' W l o') (by have := (Array.getElem?_eq_some_iff.1 h).1; omega) (fun k e => by cases e; omega))
theorem ownFrom_but {β : Type} {N m B : Nat} {w₀ : World} (hn : N ≤ w₀.heap.size) (hB : N ≤ B) : OwnFrom B (fun (_ : β) W => But N m w₀ W) := fun s W W' row hs hg hr =>
  ⟨hg.os.trans hs.os, hg.tape.trans hs.tape, hg.output.trans hs.output, Nat.le_trans hs.size hg.size, fun k hk hm => (hg.block k (Nat.lt_of_lt_of_le (Nat.lt_of_lt_of_le hk hn) hs.size) (fun e => by have := (hr k e.symm).1; omega)).trans (hs.block k hk hm)⟩
/-- what is but one block's turn ahead of n, where that block is not ahead of n, is nothing's turn -/
theorem But.below_of {N m n : Nat} {X Y : World} (h : But N m X Y) (hn : n ≤ N) (hm : n ≤ m) : Below n X Y := ⟨h.os, h.tape, h.output, h.size, fun k hk => h.block k (by omega) (by omega)⟩
theorem But.set {N m : Nat} {X Y : World} (h : But N m X Y) (o : Nat) (v : Value) : But N m X (Y.setCell ⟨m, o, none⟩ v) :=
  ⟨h.os, h.tape, h.output, by simpa using h.size, fun k hk hm => (Below.heap_setCell Y ⟨m, o, none⟩ v k hm).trans (h.block k hk hm)⟩
theorem PairsAt.but {W W' : World} {N m Ba Bb : Nat} {L M : List Sp} {c d : Sp} {g o cap g' o' cap' : Nat} (h : PairsAt W N Ba Bb L M c d g o cap g' o' cap') (hb : But N m W W') (ha : Ba ≠ m) (hb' : Bb ≠ m) (hg : g ≠ m) (hg' : g' ≠ m) : PairsAt W' N Ba Bb L M c d g o cap g' o' cap' :=
  ⟨h.ba, h.bb, h.hg, h.hg', (hb.cell (p := ⟨Ba, _, none⟩) h.ba ha).trans h.a1, (hb.cell (p := ⟨Ba, _, none⟩) h.ba ha).trans h.a2, (hb.cell (p := ⟨Ba, _, none⟩) h.ba ha).trans h.a3, (hb.cell (p := ⟨Ba, _, none⟩) h.ba ha).trans h.a4,
    (hb.cell (p := ⟨Bb, _, none⟩) h.bb hb').trans h.b1, (hb.cell (p := ⟨Bb, _, none⟩) h.bb hb').trans h.b2, (hb.cell (p := ⟨Bb, _, none⟩) h.bb hb').trans h.b3, (hb.cell (p := ⟨Bb, _, none⟩) h.bb hb').trans h.b4,
    fun j hj => ⟨(hb.cell (p := ⟨g, _, none⟩) h.hg hg).trans (h.l j hj).c0, (hb.cell (p := ⟨g, _, none⟩) h.hg hg).trans (h.l j hj).c1, (hb.cell (p := ⟨g, _, none⟩) h.hg hg).trans (h.l j hj).c2⟩,
    fun j hj => ⟨(hb.cell (p := ⟨g', _, none⟩) h.hg' hg').trans (h.m j hj).c0, (hb.cell (p := ⟨g', _, none⟩) h.hg' hg').trans (h.m j hj).c1, (hb.cell (p := ⟨g', _, none⟩) h.hg' hg').trans (h.m j hj).c2⟩⟩

set_option maxRecDepth 100000 in
set_option maxHeartbeats 4000000 in
theorem pairs2_in (n : Nat) (hn : 1 ≤ n) (q Ba Bb N : Nat) (L M : List Sp) (c d : Sp) (g o cap g' o' cap' : Nat) (mb : Nat) (hne : Ba ≠ mb ∧ Bb ≠ mb ∧ g ≠ mb ∧ g' ≠ mb) (J Jx : List (Sp × Sp) → World → Prop)
    (hAb : ∀ (pre : List (Sp × Sp)) (W : World), J pre W → J pre W.drew)
    (hY : ∀ pre x W, J pre W → pre.length < 4 → YieldAt Fence.wide (n - 1) Try.prog q (encP x) W fun e W' =>
      (e = .returned (.bool true) ∧ J (pre ++ [x]) W' ∧ But N mb W W') ∨ (e = .returned (.bool false) ∧ Jx (pre ++ [x]) W'))
    (W : World) (hP : PairsAt W N Ba Bb L M c d g o cap g' o' cap') (h0 : J [] W) :
    CallsIn Fence.wide n Try.prog 66 #[.func (.yield q) #[] #[], .pointer (some ⟨Ba, 0, none⟩), .pointer (some ⟨Bb, 0, none⟩)] W fun e W' => (∃ v, e = .returned v) ∧
      ((∃ ys, ys = upto (pairF L M c d) 4 ∧ J ys W') ∨ (∃ pre, (∃ k, k ≤ 4 ∧ pre = upto (pairF L M c d) k) ∧ Jx pre W')) := by
  refine callsIn_of_wp Try.func66 rfl trivial ?_ rfl
  simp only [Try.ntmps66, List.size_toArray, List.length_cons, List.length_nil, Nat.reduceAdd, Nat.reduceSub, Array.replicate_succ, Array.replicate_zero, List.push_toArray, List.append_toArray, List.nil_append, List.cons_append]
  have a1 := hP.a1
  gi_wp2
  gi_loopw [8] (fun i wr => ∃ k : Nat, k ≤ 3 ∧ i = .int .i64 k ∧ J (upto (pairF L M c d) k) wr ∧ PairsAt wr N Ba Bb L M c d g o cap g' o' cap')
    (fun i _ => 3 - (intOf i).toNat)
  case atStart => exact ⟨0, Nat.zero_le _, rfl, h0, hP⟩
  case round =>
    clear a1
    obtain ⟨k, hk, rfl, hJs, hQ⟩ := hrel
    by_cases hlt : k < 3
    · have hki : (k : Int) < 3 := by omega
      have a1 := hQ.a1
      have b1 := hQ.b1
      obtain ⟨q0, q1, q2⟩ := hQ.l k hlt
      obtain ⟨r0, r1, r2⟩ := hQ.m k hlt
      have e1 : pairF L M c d k = (L.getD k noSp, M.getD k noSp) := if_pos hlt
      generalize hI : L.getD k noSp = I at q0 q1 q2 e1
      generalize hK : M.getD k noSp = K at r0 r1 r2 e1
      clear hI hK
      obtain ⟨i0, i1, i2⟩ := I
      obtain ⟨k0, k1, k2⟩ := K
      simp only at q0 q1 q2 r0 r1 r2
      obtain ⟨fn, tmps, assign, body, hy, hR⟩ := hY _ ((i0, i1, i2), (k0, k1, k2)) wr.drew (hAb _ _ hJs) (by rw [upto_length]; omega)
      unfold encP at hy
      dsimp only at hy
      gi_wp2
      have hmx : Try.prog.follows .mixedOrders = true := by kernel_rfl
      gi_region_with_o (refine hR.mono ?_; rintro e W3 hh; have hh1 := one_way hh; clear hh; obtain ⟨b, rfl, hh3⟩ := hh1)
      all_goals
        clear hmx hY hy hR
        rcases hh3.out with ⟨rfl, hJ3, hk3⟩ | ⟨rfl, hJx3⟩
        · clear hh3 a1 b1 q0 q1 q2 r0 r1 r2
          gi_wp2
          go_roundw
          case rel => exact ⟨k + 1, by omega, by simp, by rw [upto_succ, e1]; exact hJ3, hQ.but ((But.below (Below.refl _ _).drew).trans hk3) hne.1 hne.2.1 hne.2.2.1 hne.2.2.2⟩
          case measure => simp [intOf]; omega
        · clear hh3 a1 b1 q0 q1 q2 r0 r1 r2
          gi_wp2
          refine bodyPost_ret (results_none rfl _ _ _) rfl ?_
          exact ⟨⟨_, rfl⟩, .inr ⟨_, ⟨k + 1, by omega, by rw [upto_succ, e1]⟩, hJx3⟩⟩
    · obtain rfl : k = 3 := by omega
      have e1 : pairF L M c d 3 = (c, d) := if_neg (by omega)
      obtain ⟨c0, c1, c2⟩ := c
      obtain ⟨d0, d1, d2⟩ := d
      have a2 := hQ.a2
      have a3 := hQ.a3
      have a4 := hQ.a4
      have b2 := hQ.b2
      have b3 := hQ.b3
      have b4 := hQ.b4
      simp only at a2 a3 a4 b2 b3 b4
      obtain ⟨fn, tmps, assign, body, hy, hR⟩ := hY _ ((c0, c1, c2), (d0, d1, d2)) wr hJs (by rw [upto_length]; omega)
      unfold encP at hy
      dsimp only at hy
      gi_wp2
      refine hR.mono ?_
      rintro e W3 (⟨rfl, hJ3, hk3⟩ | ⟨rfl, hJx3⟩)
      · gi_wp2
        go_end0
        exact ⟨⟨_, rfl⟩, .inl ⟨_, rfl, by rw [upto_succ _ 3, e1]; exact hJ3⟩⟩
      · gi_wp2
        go_end0
        exact ⟨⟨_, rfl⟩, .inr ⟨_, ⟨4, by omega, by rw [upto_succ _ 3, e1]⟩, hJx3⟩⟩

theorem pairs2_stops (n : Nat) (hn : 1 ≤ n) (Ba Bb N : Nat) (L M : List Sp) (c d : Sp) (g o cap g' o' cap' : Nat) (mb : Nat) (hne : Ba ≠ mb ∧ Bb ≠ mb ∧ g ≠ mb ∧ g' ≠ mb) (w : World) (hN : N ≤ w.heap.size) (hP : PairsAt w N Ba Bb L M c d g o cap g' o' cap') :
    SeqStopsK Fence.wide n Try.prog 66 #[.pointer (some ⟨Ba, 0, none⟩), .pointer (some ⟨Bb, 0, none⟩)] encP (But N mb) (fun ys => ys = upto (pairF L M c d) 4) (fun pre => ∃ k, k ≤ 4 ∧ pre = upto (pairF L M c d) k) 4 w := fun l J Jx W hW hA _ hY h0 =>
  pairs2_in n hn l Ba Bb N L M c d g o cap g' o' cap' mb hne J Jx (fun pre X hX => hA pre X X.drew none hX ⟨rfl, rfl, rfl, Nat.le_refl _, fun _ _ _ => rfl⟩ (fun r e => by cases e)) hY W (hP.below (hW.mono hN)) h0

end Go.Proofs.Ytdomalclpjijaaa

/-
  The program's join of two states span by span, where both are ok and neither is none.
-/
namespace Go.Proofs.Ytdomalclpjijaaa
open Go.RowKit Go.Shelf
set_option linter.unusedVariables false
set_option linter.unusedSimpArgs false
attribute [local go_sem] Oper.semAt_some

/-- the cells of the spans that have been made -/
def rowP (wd : Bool) (l : List (Sp × Sp)) : List Value := l.flatMap fun q => cs3 (spF wd q.1 q.2)
theorem rowP_snoc (wd : Bool) (l : List (Sp × Sp)) (q : Sp × Sp) : rowP wd (l ++ [q]) = rowP wd l ++ cs3 (spF wd q.1 q.2) := by simp [rowP]
structure Slot (b : Bool) (s V : Value) : Prop where
  at_ : b = true → s = V
theorem Slot.mk' {b : Bool} {V : Value} : Slot b V V := ⟨fun _ => rfl⟩
theorem Slot.no {s V : Value} : Slot false s V := ⟨fun h => by cases h⟩
/-- a span more is made -/
structure Made (w0 x : World) (N Bm n : Nat) (v : Value) (xs : List Value) : Prop where
  box : Boxed x Bm 28 v
  row : x.ownsRow N 29 3 v n xs
  keep : KeepsOthers w0 x
  but : But N Bm w0 x
def RI (mk : Value → Value → Value → Value → Value → Value → Value → Act) (w0 : World) (F0 F1 F2 F3 F4 : Value) (S : Sp) (D6 : Value → World → Prop) (D7 : World → Prop) (listed : Array Bool) (a : Act) (x : World) : Prop :=
  ∃ (b0 b1 b2 b3 b4 b5 b6 b7 : Bool) (s0 s1 s2 s3 s4 s5 s6 : Value), listed = #[b0, b1, b2, b3, b4, b5, b6, b7] ∧ a = mk s0 s1 s2 s3 s4 s5 s6 ∧ Slot b0 s0 F0 ∧ Slot b1 s1 F1 ∧ Slot b2 s2 F2 ∧ Slot b3 s3 F3 ∧ Slot b4 s4 F4 ∧
    (b6 = false → b7 = false) ∧ (b6 = false → Below w0.heap.size w0 x ∧ KeepsOthers w0 x) ∧ (b6 = false → b5 = true → ∃ q, s5 = .slice (some ⟨q, 0, none⟩) 1 1 ∧ q < x.heap.size ∧ Spn x q 0 S) ∧ (b6 = true → b0 = true ∧ b5 = true) ∧ (b5 = true → b4 = true) ∧ (b4 = true → b1 = true ∧ b2 = true ∧ b3 = true) ∧ (b6 = true → b7 = false → D6 s6 x) ∧ (b7 = true → D7 x)
theorem wp_app {P : Program} {o : Oper} {a : Act} {w : World} {K : Act → World → Prop} {Q : Exit → Act → World → Prop}
    (s x : Operand) (t : TypeId) (hop : o.op = Op.call { callee := Callee.builtin Builtin.append, args := #[s, x], argTypes := #[t, t] })
    {vs vx : Value} (hs : a.eval s = vs) (hx : a.eval x = vx) {v' : Value} {w' : World} (hrun : (Builtin.append_ #[t, t] o.type #[vs, vx]).run P w = .ok v' w')
    (hK : K (a.put o.dst v') w') : o.wp P a w K Q := by
  unfold Oper.wp
  simp [execOp, hop, resolve, invoke, builtin, hs, hx, hrun, Result.andThen]
  exact hK
theorem keepsOthers_of_below {W W' : World} (hb : Below W.heap.size W W') : KeepsOthers W W' := ⟨hb.size, fun k o hk _ => (hb.block k (Array.getElem?_eq_some_iff.1 hk).1).trans hk⟩
theorem row4 (wd : Bool) (L M : List Sp) (c d : Sp) : rowP wd (upto (pairF L M c d) 4) = cs3 (spF wd (L.getD 0 noSp) (M.getD 0 noSp)) ++ cs3 (spF wd (L.getD 1 noSp) (M.getD 1 noSp)) ++ cs3 (spF wd (L.getD 2 noSp) (M.getD 2 noSp)) ++ cs3 (spF wd c d) := rfl
theorem owns_cap {W : World} {base size n g cap : Nat} {e : TypeId} {xs : List Value} (h : W.ownsRow base e size (.slice (some ⟨g, 0, none⟩) n cap) n xs) : n ≤ cap ∧ base ≤ g ∧ g < W.heap.size := by
  refine ⟨?_, h.lt g rfl⟩
  rcases h.2 with ⟨h0, _⟩ | ⟨g', cap', cur, hv, _, _, hc, _⟩
  · cases h0
  · injection hv with _ _ e3
    omega
theorem fill5 {W : World} {r : Nat} {u0 u1 u2 u3 u4 : Value} (h : Bx5 W r u0 u1 u2 u3 u4) (v0 v1 v2 v3 v4 : Value) : Bx5 (((((W.setCell ⟨r, 0, none⟩ v0).setCell ⟨r, 1, none⟩ v1).setCell ⟨r, 2, none⟩ v2).setCell ⟨r, 3, none⟩ v3).setCell ⟨r, 4, none⟩ v4) r v0 v1 v2 v3 v4 := by
  obtain ⟨hl, c0, c1, c2, c3, c4, hf⟩ := h
  have o : ∀ (x : World) (a b : Nat) (v : Value), a ≠ b → (x.setCell ⟨r, a, none⟩ v).cell? ⟨r, b, none⟩ = x.cell? ⟨r, b, none⟩ := fun x a b v hab => sc_other (by intro e; injection e; omega)
  refine ⟨by simpa using hl, ?_, ?_, ?_, ?_, ?_, fun k => by simp [hf]⟩
  · rw [o _ _ _ _ (by omega), o _ _ _ _ (by omega), o _ _ _ _ (by omega), o _ _ _ _ (by omega), sc_same c0]
  · rw [o _ _ _ _ (by omega), o _ _ _ _ (by omega), o _ _ _ _ (by omega), sc_same ((o _ _ _ _ (by omega)).trans c1)]
  · rw [o _ _ _ _ (by omega), o _ _ _ _ (by omega), sc_same (((o _ _ _ _ (by omega)).trans (o _ _ _ _ (by omega))).trans c2)]
  · rw [o _ _ _ _ (by omega), sc_same ((((o _ _ _ _ (by omega)).trans (o _ _ _ _ (by omega))).trans (o _ _ _ _ (by omega))).trans c3)]
  · rw [sc_same (((((o _ _ _ _ (by omega)).trans (o _ _ _ _ (by omega))).trans (o _ _ _ _ (by omega))).trans (o _ _ _ _ (by omega))).trans c4)]
theorem boxed_above {w0 x : World} {B : Nat} {t : TypeId} {v : Value} (h : Boxed w0 B t v) (hb : Below w0.heap.size w0 x) : Boxed x B t v := boxed_later h hb
theorem made_app {w0 x : World} {N Bm n : Nat} {v : Value} {xs : List Value} (S : Sp) {q : Nat} {ty : TypeId} (hb : Below w0.heap.size w0 x) (hk : KeepsOthers w0 x) (hbx : Boxed w0 Bm 28 v) (hrow : w0.ownsRow N 29 3 v n xs) (hN : N ≤ w0.heap.size) (hBm : Bm < N) (hn : n ≤ 100) (hq : Spn x q 0 S) :
    ∃ p1 cap1 x', (Builtin.append_ #[28, 28] ty #[v, .slice (some ⟨q, 0, none⟩) 1 1]).run Try.prog x = .ok (.slice p1 (n + 1) cap1) x' ∧ Made w0 (x'.setCell ⟨Bm, 0, none⟩ (.slice p1 (n + 1) cap1)) N Bm (n + 1) (.slice p1 (n + 1) cap1) (xs ++ cs3 S) ∧ Boxed x' Bm 28 v := by
  obtain ⟨i, hi, hz0, hz1, hz2⟩ : ∃ i, Try.prog.info? 29 = some i ∧ i.zero = some (aggS noSp) ∧ i.size = 3 ∧ i.bytes = 24 := info_parts infoSpan
  have hbx1 := boxed_above hbx hb
  have hrow1 : x.ownsRow N 29 3 v n xs := owns_later hrow hb
  obtain ⟨v', w', hr, h2, h3, h4, h5⟩ := run_append_own_at (P := Try.prog) x N 28 ty 29 i (aggS noSp) 3 24 Try.underlying28 hi hz0 hz1 hz2 rfl (by omega) v n xs hrow1 ⟨q, 0, none⟩ 1 1 (cs3 S) rfl
    (by
      intro j u hu
      rw [Addr.add_mid]
      match j, hu with
      | 0, hu => obtain rfl : Value.bool S.1 = u := by simpa [cs3] using hu
                 exact hq.c0
      | 1, hu => obtain rfl : Value.int .i64 S.2.1 = u := by simpa [cs3] using hu
                 exact hq.c1
      | 2, hu => obtain rfl : Value.int .i64 S.2.2 = u := by simpa [cs3] using hu
                 exact hq.c2
      | j + 3, hu => simp [cs3] at hu)
    (by intro u hu; simp [cs3] at hu; rcases hu with rfl | rfl | rfl <;> rfl) (by unfold maxLen; omega) (by omega) (Nat.le_trans hN hb.size)
  obtain ⟨g, cap, rfl⟩ := ownsRow_succ h2
  have hte : (28 : TypeId) ≠ 29 := by decide
  have hbx2 : Boxed w' Bm 28 v := hbx1.kept h3 (hbx1.not_row hte hrow1)
  have hgrow : ∀ k, v.ownBlock = some k → N ≤ k := fun k e => (hrow1.lt k e).1
  refine ⟨_, _, w', hr, ⟨hbx2.set _, h2.kept (grownBy_setCell' w' Bm _) (.inr (hbx2.not_row hte h2).symm), ?_, ?_⟩, hbx2⟩
  · refine (hk.trans (KeepsOthers.of_grownBy h3 fun j o ej hj => ?_)).trans (KeepsOthers.setCell _ _ _)
    rcases hrow1.2 with ⟨rfl, _⟩ | ⟨g, cap, cur, rfl, _, hgb, _⟩
    · simp [Value.ownBlock] at ej
    · obtain rfl : g = j := by simpa [Value.ownBlock] using ej
      rw [hgb] at hj; cases hj; rfl
  · exact (But.below ((hb.mono hN).grown h3 (Nat.le_trans hN hb.size) hgrow)).set 0 _

set_option maxHeartbeats 8000000 in
theorem sbs_both_false (x : World) (z z' : Bool) (B E C D : Nat) (v : Value) (L : List Sp) (c : Bool) (l u : Int) (v' : Value) (M : List Sp) (d : Bool) (l' u' : Int) (hoa : stOk true L (c, l, u) = true) (hob : stOk true M (d, l', u') = true) (h : SpsAt z x B E v L) (h' : SpsAt z' x C D v' M) :
    Calls Try.prog 34 #[.agg #[.bool true, v, .bool c, .int .i64 l, .int .i64 u], .agg #[.bool true, v', .bool d, .int .i64 l', .int .i64 u'], .func (.func 35) #[] #[]] x fun e y => StAt (stBoth false true L (c, l, u) true M (d, l', u')) x e y := by
  obtain ⟨p, cap, hv⟩ := h.shape
  obtain ⟨p', cap', hv'⟩ := h'.shape
  generalize hn : L.length = n at hv
  generalize hm : M.length = m at hv'
  subst hv hv'
  have HN : Hid (L.length = n) := hn
  have HM : Hid (M.length = m) := hm
  clear hn hm
  have hba : Below x.heap.size x ((((x.alloc (.cells #[.bool true, .slice p n cap, .bool c, .int .i64 l, .int .i64 u] 31)).alloc (.cells #[.bool true, .slice p' m cap', .bool d, .int .i64 l', .int .i64 u'] 31)).alloc (.cells #[.func (.func 35) #[] #[]] 52)).alloc (.cells #[.bool false, .slice none 0 0, .bool false, .int .i64 0, .int .i64 0] 31)) := by go_grown
  have ka := (((Bx5.new x (.bool true) (.slice p n cap) (.bool c) (.int .i64 l) (.int .i64 u) 31).alloc (.cells #[.bool true, .slice p' m cap', .bool d, .int .i64 l', .int .i64 u'] 31)).alloc (.cells #[.func (.func 35) #[] #[]] 52)).alloc (.cells #[.bool false, .slice none 0 0, .bool false, .int .i64 0, .int .i64 0] 31)
  have kb := ((Bx5.new (x.alloc (.cells #[.bool true, .slice p n cap, .bool c, .int .i64 l, .int .i64 u] 31)) (.bool true) (.slice p' m cap') (.bool d) (.int .i64 l') (.int .i64 u') 31).alloc (.cells #[.func (.func 35) #[] #[]] 52)).alloc (.cells #[.bool false, .slice none 0 0, .bool false, .int .i64 0, .int .i64 0] 31)
  have kf := (Boxed.new ((x.alloc (.cells #[.bool true, .slice p n cap, .bool c, .int .i64 l, .int .i64 u] 31)).alloc (.cells #[.bool true, .slice p' m cap', .bool d, .int .i64 l', .int .i64 u'] 31)) 52 (.func (.func 35) #[] #[])).alloc (.cells #[.bool false, .slice none 0 0, .bool false, .int .i64 0, .int .i64 0] 31)
  have kr := Bx5.new (((x.alloc (.cells #[.bool true, .slice p n cap, .bool c, .int .i64 l, .int .i64 u] 31)).alloc (.cells #[.bool true, .slice p' m cap', .bool d, .int .i64 l', .int .i64 u'] 31)).alloc (.cells #[.func (.func 35) #[] #[]] 52)) (.bool false) (.slice none 0 0) (.bool false) (.int .i64 0) (.int .i64 0) 31
  simp only [World.size_alloc] at kb kf kr
  have h3 := h.later hba
  have h3' := h'.later hba
  refine (callsIn_wide (n := 8)).1 ?_
  refine callsIn_of_wp_marks Try.func34 rfl trivial ?_ rfl
  simp only [Try.ntmps34, List.size_toArray, List.length_cons, List.length_nil, Nat.reduceAdd, Nat.reduceSub, Array.replicate_succ, Array.replicate_zero, List.push_toArray, List.append_toArray, List.nil_append, List.cons_append]
  gi_wp2_with fail
  refine ⟨trivial, ?_⟩
  refine (callsIn_wide.2 (stOk_impl _ z B E _ _ L _ _ _ h3)).mono ?_
  rintro e w1 ⟨rfl, hb⟩
  rw [hoa]
  replace hba := hba.trans (hb.mono hba.size)
  replace ka := ka.later hb
  replace kb := kb.later hb
  replace kr := kr.later hb
  replace h3 := h3.later hb
  replace h3' := h3'.later hb
  replace kf := boxed_later kf hb
  clear hb
  obtain ⟨_, a0, a1, a2, a3, a4, af⟩ := id ka
  obtain ⟨_, b0, b1, b2, b3, b4, bf⟩ := id kb
  obtain ⟨_, r0, r1, r2, r3, r4, rf⟩ := id kr
  have f0 := kf.cell
  have ff := kf.frozen
  gi_wp2_with fail
  clear a0 a1 a2 a3 a4 af b0 b1 b2 b3 b4 bf r0 r1 r2 r3 r4 rf f0 ff
  refine ⟨trivial, ?_⟩
  refine (callsIn_wide.2 (stOk_impl _ z' C D _ _ M _ _ _ h3')).mono ?_
  rintro e w2 ⟨rfl, hb⟩
  rw [hob]
  replace hba := hba.trans (hb.mono hba.size)
  replace ka := ka.later hb
  replace kb := kb.later hb
  replace kr := kr.later hb
  replace h3 := h3.later hb
  replace h3' := h3'.later hb
  replace kf := boxed_later kf hb
  clear hb
  obtain ⟨_, a0, a1, a2, a3, a4, af⟩ := id ka
  obtain ⟨_, b0, b1, b2, b3, b4, bf⟩ := id kb
  obtain ⟨_, r0, r1, r2, r3, r4, rf⟩ := id kr
  have f0 := kf.cell
  have ff := kf.frozen
  gi_wp2_with fail
  refine ⟨trivial, ?_⟩
  refine (callsIn_wide.2 (pairs_any _ _ _ _ _ _ _ _ _ _ _ rfl rfl)).mono ?_
  rintro e w3 ⟨rfl, rfl⟩
  gi_wp2_with fail
  have hn3 : n = 3 := HN.out.symm.trans (stOk_len' hoa)
  have hm3 : m = 3 := HM.out.symm.trans (stOk_len' hob)
  subst hn3 hm3
  obtain ⟨g, o, hgo, hgx, hl3⟩ : ∃ g o, p = some ⟨g, o, none⟩ ∧ g < w2.heap.size ∧ ∀ j, j < 3 → Spn w2 g (o + j * 3) (L.getD j noSp) := by
    obtain ⟨p1, cap1, hv1, _, hq⟩ := h3
    injection hv1 with e1
    rcases hq with h0 | ⟨g, o, hp, _, hgE, hEx, _, hj⟩
    · rw [HN.out] at h0; omega
    · rw [HN.out] at hj
      exact ⟨g, o, e1.trans hp, by omega, hj⟩
  obtain ⟨g', o', hgo', hgx', hl3'⟩ : ∃ g o, p' = some ⟨g, o, none⟩ ∧ g < w2.heap.size ∧ ∀ j, j < 3 → Spn w2 g (o + j * 3) (M.getD j noSp) := by
    obtain ⟨p1, cap1, hv1, _, hq⟩ := h3'
    injection hv1 with e1
    rcases hq with h0 | ⟨g, o, hp, _, hgE, hEx, _, hj⟩
    · rw [HM.out] at h0; omega
    · rw [HM.out] at hj
      exact ⟨g, o, e1.trans hp, by omega, hj⟩
  subst hgo hgo'
  have nb := Bx5.new ((w2.alloc (.cells #[.slice none 0 0] 28)).alloc (.cells #[.bool true, .slice (some ⟨g, o, none⟩) 3 cap, .bool c, .int .i64 l, .int .i64 u] 31)) (.bool true) (.slice (some ⟨g', o', none⟩) 3 cap') (.bool d) (.int .i64 l') (.int .i64 u') 31
  have na := (Bx5.new (w2.alloc (.cells #[.slice none 0 0] 28)) (.bool true) (.slice (some ⟨g, o, none⟩) 3 cap) (.bool c) (.int .i64 l) (.int .i64 u) 31).alloc (.cells #[.bool true, .slice (some ⟨g', o', none⟩) 3 cap', .bool d, .int .i64 l', .int .i64 u'] 31)
  have nm := ((Boxed.new w2 28 (.slice none 0 0)).alloc (.cells #[.bool true, .slice (some ⟨g, o, none⟩) 3 cap, .bool c, .int .i64 l, .int .i64 u] 31)).alloc (.cells #[.bool true, .slice (some ⟨g', o', none⟩) 3 cap', .bool d, .int .i64 l', .int .i64 u'] 31)
  have hw0 : Below w2.heap.size w2 (((w2.alloc (.cells #[.slice none 0 0] 28)).alloc (.cells #[.bool true, .slice (some ⟨g, o, none⟩) 3 cap, .bool c, .int .i64 l, .int .i64 u] 31)).alloc (.cells #[.bool true, .slice (some ⟨g', o', none⟩) 3 cap', .bool d, .int .i64 l', .int .i64 u'] 31)) := (((Below.refl _ w2).alloc (Nat.le_refl _) _).alloc (by simp) _).alloc (by simp; omega) _
  have hsz : (((w2.alloc (.cells #[.slice none 0 0] 28)).alloc (.cells #[.bool true, .slice (some ⟨g, o, none⟩) 3 cap, .bool c, .int .i64 l, .int .i64 u] 31)).alloc (.cells #[.bool true, .slice (some ⟨g', o', none⟩) 3 cap', .bool d, .int .i64 l', .int .i64 u'] 31)).heap.size = w2.heap.size + 3 := by simp
  simp only [World.size_alloc] at nb na
  obtain ⟨W0, hW0⟩ : ∃ W0, (((w2.alloc (.cells #[.slice none 0 0] 28)).alloc (.cells #[.bool true, .slice (some ⟨g, o, none⟩) 3 cap, .bool c, .int .i64 l, .int .i64 u] 31)).alloc (.cells #[.bool true, .slice (some ⟨g', o', none⟩) 3 cap', .bool d, .int .i64 l', .int .i64 u'] 31)) = W0 := ⟨_, rfl⟩
  rw [hW0] at nb na nm hw0 hsz ⊢
  clear hW0
  have hB0 : Below x.heap.size x W0 := hba.trans (hw0.mono hba.size)
  have bF : Boxed W0 (x.heap.size + 1 + 1) 52 (.func (.func 35) #[] #[]) := boxed_later kf hw0
  have bR : Bx5 W0 (x.heap.size + 1 + 1 + 1) (.bool false) (.slice none 0 0) (.bool false) (.int .i64 0) (.int .i64 0) := kr.later hw0
  have hRl : x.heap.size + 1 + 1 + 1 < w2.heap.size := kr.lt
  have hP : PairsAt W0 W0.heap.size (w2.heap.size + 1) (w2.heap.size + 1 + 1) L M (c, l, u) (d, l', u') g o cap g' o' cap' :=
    ⟨by omega, by omega, by omega, by omega, na.c1, na.c2, na.c3, na.c4, nb.c1, nb.c2, nb.c3, nb.c4, fun j hj => (hl3 j hj).later hw0 hgx, fun j hj => (hl3' j hj).later hw0 hgx'⟩
  clear a0 a1 a2 a3 a4 b0 b1 b2 b3 b4 r0 r1 r2 r3 r4 af bf rf f0 ff ka kb kr kf h3 h3' nb na h h' hl3 hl3'
  have hx0 : x.heap.size + 1 + 1 + 1 + 1 ≤ w2.heap.size := by omega
  have hsz2 : w2.heap.size + 3 ≤ W0.heap.size := by omega
  refine wpIn_rangeFunc_ownH rfl (by omega) (gf := 66) (lb := #[.pointer (some ⟨w2.heap.size + 1, 0, none⟩), .pointer (some ⟨w2.heap.size + 1 + 1, 0, none⟩)]) rfl trivial (enters_of Try.func66 (by kernel_rfl) rfl)
    (pairs2_stops 7 (by omega) (w2.heap.size + 1) (w2.heap.size + 1 + 1) W0.heap.size L M (c, l, u) (d, l', u') g o cap g' o' cap' w2.heap.size ⟨by omega, by omega, by omega, by omega⟩ W0 (Nat.le_refl _) hP) butK_t (butK_b (Nat.le_refl _)) (Below.refl _ _) (fun _ => rfl)
    (fun pre W => (∃ v, Boxed W w2.heap.size 28 v ∧ W.ownsRow W0.heap.size 29 3 v pre.length (rowP false pre) ∧ True) ∧ But W0.heap.size w2.heap.size W0 W)
    (fun cc pre W => False)
    (OwnFrom.and (Own.from (holdsRow_own _ _ _ _ _ _ _ _) _) (ownFrom_but (Nat.le_refl _) (Nat.le_refl _)))
    (fun cc => fun s A B row hs _ _ => hs)
    ⟨⟨_, nm, World.ownsRow_nil _ _ _ _, trivial⟩, But.refl _ _ _⟩
    (fun y a' W => ∃ B1 B2, (Bxs W B1 y.1 ∧ Bxs W B2 y.2) ∧ a' = { tmps := #[.agg #[.bool true, .slice (some ⟨g, o, none⟩) 3 cap, .bool c, .int .i64 l, .int .i64 u], .agg #[.bool true, .slice (some ⟨g', o', none⟩) 3 cap', .bool d, .int .i64 l', .int .i64 u'], .func (.func 35) #[] #[], .pointer (some ⟨x.heap.size, 0, none⟩), .pointer (some ⟨x.heap.size + 1, 0, none⟩), .pointer (some ⟨x.heap.size + 1 + 1, 0, none⟩), .pointer (some ⟨x.heap.size + 1 + 1 + 1, 0, none⟩), .pointer (some ⟨w2.heap.size, 0, none⟩), .pointer (some ⟨B1, 0, none⟩), .pointer (some ⟨B2, 0, none⟩), .agg #[.bool true, .slice (some ⟨g, o, none⟩) 3 cap, .bool c, .int .i64 l, .int .i64 u], .bool true, .bool false, .bool false, .agg #[.bool true, .slice (some ⟨g', o', none⟩) 3 cap', .bool d, .int .i64 l', .int .i64 u'], .bool true, .bool false, .bool false, undef, .pointer (some ⟨x.heap.size, 0, none⟩), .bool true, .bool false, undef, undef, .pointer (some ⟨x.heap.size + 1, 0, none⟩), .bool true, .bool false, undef, undef, .agg #[.bool true, .slice (some ⟨g, o, none⟩) 3 cap, .bool c, .int .i64 l, .int .i64 u], .agg #[.bool true, .slice (some ⟨g', o', none⟩) 3 cap', .bool d, .int .i64 l', .int .i64 u'], .func (.func 66) #[] #[.pointer (some ⟨w2.heap.size + 1, 0, none⟩), .pointer (some ⟨w2.heap.size + 1 + 1, 0, none⟩)], .agg #[.bool y.1.1, .int .i64 y.1.2.1, .int .i64 y.1.2.2], .agg #[.bool y.2.1, .int .i64 y.2.2.1, .int .i64 y.2.2.2], undef, undef, undef, undef, undef, undef, undef, undef, undef, undef, undef, undef, undef], defers := [] })
    (fun y a' _ X Y row hs hg hr => by obtain ⟨B1, B2, ⟨h1, h2⟩, h3⟩ := hs; exact ⟨B1, B2, ⟨bxs_own B1 (fun (_ : Unit) => y.1) () X Y row h1 hg (fun r e => (hr r e).2), bxs_own B2 (fun (_ : Unit) => y.2) () X Y row h2 hg (fun r e => (hr r e).2)⟩, h3⟩)
    ?assign ?body ?done ?stop
  all_goals clear hsz
  case assign =>
    rintro q pre y W K ⟨⟨v, hbx, hrow, _⟩, hBt⟩ hK
    unfold encP
    have hsW := hBt.size
    have hW2 : Below W.heap.size W ((W.alloc (.cells #[.bool y.1.1, .int .i64 y.1.2.1, .int .i64 y.1.2.2] 29)).alloc (.cells #[.bool y.2.1, .int .i64 y.2.2.1, .int .i64 y.2.2.2] 29)) := ((Below.refl _ W).alloc (Nat.le_refl _) _).alloc (by simp) _
    gi_wp2
    exact hK _ _ (((KeepsOthers.alloc _ _).from _).trans ((KeepsOthers.alloc _ _).from _)) (But.below (hW2.mono hsW)) ⟨⟨v, (hbx.alloc _).alloc _, owns_later hrow hW2, trivial⟩, hBt.trans (But.below (hW2.mono hsW))⟩ ⟨W.heap.size, W.heap.size + 1, ⟨(Bxs.new W y.1).alloc _, by have := Bxs.new (W.alloc (.cells #[.bool y.1.1, .int .i64 y.1.2.1, .int .i64 y.1.2.2] 29)) y.2; rwa [World.size_alloc] at this⟩, rfl⟩
  case body =>
    rintro q pre y a' W hq ⟨r, hr⟩ ⟨⟨v, hbx, hrow, _⟩, hBt⟩ ⟨B1, B2, ⟨k1, k2⟩, rfl⟩ hlt
    obtain ⟨⟨s0, s1, s2⟩, ⟨t0, t1, t2⟩⟩ := y
    obtain ⟨n0, n1, n2, hn0⟩ : ∃ n0 n1 n2, spF false (s0, s1, s2) (t0, t1, t2) = (n0, n1, n2) := ⟨_, _, _, rfl⟩
    have HK : Hid (spF false (s0, s1, s2) (t0, t1, t2) = (n0, n1, n2)) := hn0
    clear hn0
    have hbf := hBt.boxed bF (by omega) (by omega)
    have hsW := hBt.size
    have hbd : Below W.heap.size W W.drew := (Below.refl _ _).drew
    gi_wp2_with fail
    refine wpIn_round_inv (by kernel_rfl) (by kernel_rfl) ?hg (RI (fun s34 s35 s36 s37 s38 s39 s40 => ⟨#[.agg #[.bool true, .slice (some ⟨g, o, none⟩) 3 cap, .bool c, .int .i64 l, .int .i64 u], .agg #[.bool true, .slice (some ⟨g', o', none⟩) 3 cap', .bool d, .int .i64 l', .int .i64 u'], .func (.func 35) #[] #[], .pointer (some ⟨x.heap.size, 0, none⟩), .pointer (some ⟨x.heap.size + 1, 0, none⟩), .pointer (some ⟨x.heap.size + 1 + 1, 0, none⟩), .pointer (some ⟨x.heap.size + 1 + 1 + 1, 0, none⟩), .pointer (some ⟨w2.heap.size, 0, none⟩), .pointer (some ⟨B1, 0, none⟩), .pointer (some ⟨B2, 0, none⟩), .agg #[.bool true, .slice (some ⟨g, o, none⟩) 3 cap, .bool c, .int .i64 l, .int .i64 u], .bool true, .bool false, .bool false, .agg #[.bool true, .slice (some ⟨g', o', none⟩) 3 cap', .bool d, .int .i64 l', .int .i64 u'], .bool true, .bool false, .bool false, undef, .pointer (some ⟨x.heap.size, 0, none⟩), .bool true, .bool false, undef, undef, .pointer (some ⟨x.heap.size + 1, 0, none⟩), .bool true, .bool false, undef, undef, .agg #[.bool true, .slice (some ⟨g, o, none⟩) 3 cap, .bool c, .int .i64 l, .int .i64 u], .agg #[.bool true, .slice (some ⟨g', o', none⟩) 3 cap', .bool d, .int .i64 l', .int .i64 u'], .func (.func 66) #[] #[.pointer (some ⟨w2.heap.size + 1, 0, none⟩), .pointer (some ⟨w2.heap.size + 1 + 1, 0, none⟩)], .agg #[.bool s0, .int .i64 s1, .int .i64 s2], .agg #[.bool t0, .int .i64 t1, .int .i64 t2], s34, s35, s36, s37, s38, s39, s40, undef, undef, undef, undef, undef, undef], []⟩) W.drew v (.func (.func 35) #[] #[]) (.agg #[.bool s0, .int .i64 s1, .int .i64 s2]) (.agg #[.bool t0, .int .i64 t1, .int .i64 t2]) (.agg #[.bool n0, .int .i64 n1, .int .i64 n2]) (n0, n1, n2)
      (fun s z => ∃ p1 cap1, s = .slice p1 (pre.length + 1) cap1 ∧ Made W.drew (z.setCell ⟨w2.heap.size, 0, none⟩ (.slice p1 (pre.length + 1) cap1)) W0.heap.size w2.heap.size (pre.length + 1) (.slice p1 (pre.length + 1) cap1) (rowP false pre ++ cs3 (n0, n1, n2)) ∧ Boxed z w2.heap.size 28 v)
      (fun z => ∃ p1 cap1, Made W.drew z W0.heap.size w2.heap.size (pre.length + 1) (.slice p1 (pre.length + 1) cap1) (rowP false pre ++ cs3 (n0, n1, n2)))) ?start ?step ?fin
    case hg =>
      intro i o ho
      iterate 8
        rcases i with _ | i
        · obtain rfl := Option.some.inj ho
          exact ⟨rfl, fun c h => by cases h⟩
      cases ho
    case start =>
      exact ⟨false, false, false, false, false, false, false, false, _, _, _, _, _, _, _, rfl, rfl, Slot.no, Slot.no, Slot.no, Slot.no, Slot.no, fun _ => rfl, fun _ => ⟨Below.refl _ _, KeepsOthers.refl _⟩, (fun _ h => by cases h), (fun h => by cases h), (fun h => by cases h), (fun h => by cases h), (fun h => by cases h), (fun h => by cases h)⟩
    case step =>
      intro listed a z hI i o ho hun hpre K hK
      obtain ⟨b0, b1, b2, b3, b4, b5, b6, b7, s34, s35, s36, s37, s38, s39, s40, rfl, rfl, h0, h1, h2, h3, h4, h67, hBk, h5, hall, h45, h4a, h6, h7⟩ := hI
      rcases i with _ | i
      · obtain rfl := Option.some.inj ho
        have e : b0 = false := hun
        subst e
        obtain rfl : b6 = false := by
          cases b6
          · rfl
          · have := (hall rfl).1; simp at this
        obtain rfl : b7 = false := h67 rfl
        obtain ⟨hB, hKo⟩ := hBk rfl
        clear hBk h67 hall h6 h7 hun
        clear ho hpre
        have cb := (boxed_above (w0 := W.drew) (boxed_above hbx hbd) hB).cell
        go_simp
        exact hK _ _ ⟨true, b1, b2, b3, b4, b5, false, false, _, s35, s36, s37, s38, s39, s40, rfl, rfl, Slot.mk', h1, h2, h3, h4, (fun _ => rfl), (fun _ => ⟨hB, hKo⟩), h5, (fun h => by cases h), h45, h4a, (fun h => by cases h), (fun h => by cases h)⟩
      rcases i with _ | i
      · obtain rfl := Option.some.inj ho
        have e : b1 = false := hun
        subst e
        obtain rfl : b6 = false := by
          cases b6
          · rfl
          · have := (h4a (h45 (hall rfl).2)).1; simp at this
        obtain rfl : b7 = false := h67 rfl
        obtain ⟨hB, hKo⟩ := hBk rfl
        clear hBk h67 hall h6 h7 hun
        clear ho hpre
        have cb := (boxed_above (w0 := W.drew) (boxed_above hbf hbd) hB).cell
        go_simp
        exact hK _ _ ⟨b0, true, b2, b3, b4, b5, false, false, s34, _, s36, s37, s38, s39, s40, rfl, rfl, h0, Slot.mk', h2, h3, h4, (fun _ => rfl), (fun _ => ⟨hB, hKo⟩), h5, (fun h => by cases h), h45, (fun h => ⟨rfl, (h4a h).2.1, (h4a h).2.2⟩), (fun h => by cases h), (fun h => by cases h)⟩
      rcases i with _ | i
      · obtain rfl := Option.some.inj ho
        have e : b2 = false := hun
        subst e
        obtain rfl : b6 = false := by
          cases b6
          · rfl
          · have := (h4a (h45 (hall rfl).2)).2.1; simp at this
        obtain rfl : b7 = false := h67 rfl
        obtain ⟨hB, hKo⟩ := hBk rfl
        clear hBk h67 hall h6 h7 hun
        clear ho hpre
        obtain ⟨c0, c1, c2⟩ := k1.cells
        replace c0 := (hB.cell (p := ⟨B1, 0, none⟩) (by simpa using k1.lt)).trans ((hbd.cell (p := ⟨B1, 0, none⟩) k1.lt).trans c0)
        replace c1 := (hB.cell (p := ⟨B1, 1, none⟩) (by simpa using k1.lt)).trans ((hbd.cell (p := ⟨B1, 1, none⟩) k1.lt).trans c1)
        replace c2 := (hB.cell (p := ⟨B1, 2, none⟩) (by simpa using k1.lt)).trans ((hbd.cell (p := ⟨B1, 2, none⟩) k1.lt).trans c2)
        simp only at c0 c1 c2
        go_simp
        exact hK _ _ ⟨b0, b1, true, b3, b4, b5, false, false, s34, s35, _, s37, s38, s39, s40, rfl, rfl, h0, h1, Slot.mk', h3, h4, (fun _ => rfl), (fun _ => ⟨hB, hKo⟩), h5, (fun h => by cases h), h45, (fun h => ⟨(h4a h).1, rfl, (h4a h).2.2⟩), (fun h => by cases h), (fun h => by cases h)⟩
      rcases i with _ | i
      · obtain rfl := Option.some.inj ho
        have e : b3 = false := hun
        subst e
        obtain rfl : b6 = false := by
          cases b6
          · rfl
          · have := (h4a (h45 (hall rfl).2)).2.2; simp at this
        obtain rfl : b7 = false := h67 rfl
        obtain ⟨hB, hKo⟩ := hBk rfl
        clear hBk h67 hall h6 h7 hun
        clear ho hpre
        obtain ⟨c0, c1, c2⟩ := k2.cells
        replace c0 := (hB.cell (p := ⟨B2, 0, none⟩) (by simpa using k2.lt)).trans ((hbd.cell (p := ⟨B2, 0, none⟩) k2.lt).trans c0)
        replace c1 := (hB.cell (p := ⟨B2, 1, none⟩) (by simpa using k2.lt)).trans ((hbd.cell (p := ⟨B2, 1, none⟩) k2.lt).trans c1)
        replace c2 := (hB.cell (p := ⟨B2, 2, none⟩) (by simpa using k2.lt)).trans ((hbd.cell (p := ⟨B2, 2, none⟩) k2.lt).trans c2)
        simp only at c0 c1 c2
        go_simp
        exact hK _ _ ⟨b0, b1, b2, true, b4, b5, false, false, s34, s35, s36, _, s38, s39, s40, rfl, rfl, h0, h1, h2, Slot.mk', h4, (fun _ => rfl), (fun _ => ⟨hB, hKo⟩), h5, (fun h => by cases h), h45, (fun h => ⟨(h4a h).1, (h4a h).2.1, rfl⟩), (fun h => by cases h), (fun h => by cases h)⟩
      rcases i with _ | i
      · obtain rfl := Option.some.inj ho
        have e : b4 = false := hun
        subst e
        obtain rfl : b6 = false := by
          cases b6
          · rfl
          · have := h45 (hall rfl).2; simp at this
        obtain rfl : b7 = false := h67 rfl
        obtain ⟨hB, hKo⟩ := hBk rfl
        clear hBk h67 hall h6 h7 hun
        have q1 : b1 = true := hpre ⟨1, .data⟩ (by simp) rfl
        have e1 := h1.at_ q1
        subst e1
        have q2 : b2 = true := hpre ⟨2, .data⟩ (by simp) rfl
        have e2 := h2.at_ q2
        subst e2
        have q3 : b3 = true := hpre ⟨3, .data⟩ (by simp) rfl
        have e3 := h3.at_ q3
        subst e3
        clear ho hpre
        go_simp
        refine (joinS_at HK.out _).mono ?_
        rintro e z1 ⟨rfl, hb1⟩
        exact hK _ _ ⟨b0, b1, b2, b3, true, b5, false, false, s34, _, _, _, _, s39, s40, rfl, rfl, h0, h1, h2, h3, Slot.mk', (fun _ => rfl), (fun _ => ⟨hB.trans (hb1.mono hB.size), hKo.trans (keepsOthers_of_below hb1)⟩), (fun h g => by obtain ⟨q5, e5, l5, sp5⟩ := h5 h g; exact ⟨q5, e5, Nat.lt_of_lt_of_le l5 hb1.size, sp5.later hb1 l5⟩), (fun h => by cases h), (fun _ => rfl), (fun _ => ⟨q1, q2, q3⟩), (fun h => by cases h), (fun h => by cases h)⟩
      rcases i with _ | i
      · obtain rfl := Option.some.inj ho
        have e : b5 = false := hun
        subst e
        obtain rfl : b6 = false := by
          cases b6
          · rfl
          · have := (hall rfl).2; simp at this
        obtain rfl : b7 = false := h67 rfl
        obtain ⟨hB, hKo⟩ := hBk rfl
        clear hBk h67 hall h6 h7 hun
        have q4 : b4 = true := hpre ⟨4, .data⟩ (by simp) rfl
        have e4 := h4.at_ q4
        subst e4
        clear ho hpre
        go_simp
        exact hK _ _ ⟨b0, b1, b2, b3, b4, true, false, false, s34, s35, s36, s37, _, _, s40, rfl, rfl, h0, h1, h2, h3, h4, (fun _ => rfl), (fun _ => ⟨hB.alloc hB.size _, hKo.trans (KeepsOthers.alloc _ _)⟩), (fun _ _ => ⟨_, rfl, by simp, spn_new _ _ _ _ _⟩), (fun h => by cases h), (fun _ => q4), h4a, (fun h => by cases h), (fun h => by cases h)⟩
      rcases i with _ | i
      · obtain rfl := Option.some.inj ho
        have e : b6 = false := hun
        subst e
        obtain rfl : b7 = false := h67 rfl
        obtain ⟨hB, hKo⟩ := hBk rfl
        have q0 : b0 = true := hpre ⟨0, .data⟩ (by simp) rfl
        have q5 : b5 = true := hpre ⟨5, .data⟩ (by simp) rfl
        obtain ⟨q, e5, l5, sp5⟩ := h5 rfl q5
        subst e5
        have e0 := h0.at_ q0
        subst e0
        obtain ⟨p1, cap1, z1, hr1, hM, hbz⟩ := made_app (n0, n1, n2) (ty := 28) hB hKo (boxed_above hbx hbd) (owns_later hrow hbd) (show W0.heap.size ≤ W.drew.heap.size from hsW) (by omega) (by omega) sp5
        refine wp_app _ _ 28 rfl rfl rfl hr1 (hK _ _ ⟨b0, b1, b2, b3, b4, b5, true, false, _, s35, s36, s37, s38, _, _, rfl, rfl, h0, h1, h2, h3, h4, (fun h => by cases h), (fun h => by cases h), (fun h => by cases h), (fun _ => ⟨q0, q5⟩), h45, h4a, (fun _ _ => ⟨p1, cap1, rfl, hM, hbz⟩), (fun h => by cases h)⟩)
      rcases i with _ | i
      · obtain rfl := Option.some.inj ho
        have e : b7 = false := hun
        subst e
        have q6 : b6 = true := hpre ⟨6, .data⟩ (by simp) rfl
        subst q6
        obtain ⟨p1, cap1, e6, hM, hbz⟩ := h6 rfl rfl
        subst e6
        have cb := hbz.cell
        have fb := hbz.frozen
        clear ho hpre hun
        go_simp
        exact hK _ _ ⟨b0, b1, b2, b3, b4, b5, true, true, s34, s35, s36, s37, s38, s39, _, rfl, rfl, h0, h1, h2, h3, h4, (fun h => by cases h), (fun h => by cases h), (fun h => by cases h), hall, h45, h4a, (fun _ h => by cases h), (fun _ => ⟨p1, cap1, hM⟩)⟩
      cases ho
    case fin =>
      intro listed a z hI hfin
      obtain ⟨b0, b1, b2, b3, b4, b5, b6, b7, s34, s35, s36, s37, s38, s39, s40, rfl, rfl, _, _, _, _, _, _, _, _, _, _, _, _, h7⟩ := hI
      obtain ⟨p1, cap1, hM⟩ := h7 (hfin 7 (by simp))
      clear hfin h7
      gi_wp2
      refine ⟨((KeepsOthers.drew W).trans hM.keep).from _, (But.below (hbd.mono hsW)).trans hM.but, ⟨_, hM.box, ?_⟩, hBt.trans ((But.below (hbd.mono hsW)).trans hM.but)⟩
      rw [rowP_snoc, HK.out]
      have e1 : (pre ++ [((s0, s1, s2), (t0, t1, t2))]).length = pre.length + 1 := by simp
      rw [e1]
      exact hM.row
  case done =>
    rintro D' ys W hD rfl ⟨⟨v, hbx, hrow, _⟩, hBt⟩ hK
    rw [upto_length] at hrow
    obtain ⟨g4, cap4, rfl⟩ := ownsRow_succ hrow
    rw [row4] at hrow
    obtain ⟨hcap, hg4, hg4l⟩ := owns_cap hrow
    obtain ⟨n0, n1, n2, hn0⟩ : ∃ n0 n1 n2, spF false (c, l, u) (d, l', u') = (n0, n1, n2) := ⟨_, _, _, rfl⟩
    have HK : Hid (spF false (c, l, u) (d, l', u') = (n0, n1, n2)) := hn0
    rw [hn0] at hrow
    clear hn0
    have HRow : Hid (W.ownsRow W0.heap.size 29 3 (.slice (some ⟨g4, 0, none⟩) (3 + 1) cap4) (3 + 1) (cs3 (spF false (L.getD 0 noSp) (M.getD 0 noSp)) ++ cs3 (spF false (L.getD 1 noSp) (M.getD 1 noSp)) ++ cs3 (spF false (L.getD 2 noSp) (M.getD 2 noSp)) ++ cs3 (n0, n1, n2))) := hrow
    have c9 : W.cell? ⟨g4, 9, none⟩ = some (.bool n0) := World.ownsRow.cellAt hrow 9 (by omega)
    have c10 : W.cell? ⟨g4, 10, none⟩ = some (.int .i64 n1) := World.ownsRow.cellAt hrow 10 (by omega)
    have c11 : W.cell? ⟨g4, 11, none⟩ = some (.int .i64 n2) := World.ownsRow.cellAt hrow 11 (by omega)
    clear hrow
    have hres := hBt.bx5 bR (by omega) (by omega)
    obtain ⟨rl, r0, r1, r2, r3, r4, rf⟩ := id hres
    have cb := hbx.cell
    have hc3 : 3 ≤ cap4 := by omega
    gi_wp2_with fail
    refine wpIn_wide.2 ?_
    go_region
    have hfill : Bx5 ((((((W.setCell ⟨x.heap.size + 1 + 1 + 1, 0, none⟩ (.bool true)).setCell ⟨x.heap.size + 1 + 1 + 1, 1, none⟩ (.slice (some ⟨g4, 0, none⟩) 3 3)).setCell ⟨x.heap.size + 1 + 1 + 1, 2, none⟩ (.bool n0)).setCell ⟨x.heap.size + 1 + 1 + 1, 3, none⟩ (.int .i64 n1)).setCell ⟨x.heap.size + 1 + 1 + 1, 4, none⟩ (.int .i64 n2)).drew) (x.heap.size + 1 + 1 + 1) (.bool true) (.slice (some ⟨g4, 0, none⟩) 3 3) (.bool n0) (.int .i64 n1) (.int .i64 n2) := (fill5 hres _ _ _ _ _).later (Below.refl _ _).drew
    have hrr : x.heap.size + 1 + 1 + 1 < W0.heap.size := by omega
    have hrowr := owns_later (owns_off (i := 4) (u := .int .i64 n2) (owns_off (i := 3) (u := .int .i64 n1) (owns_off (i := 2) (u := .bool n0) (owns_off (i := 1) (u := .slice (some ⟨g4, 0, none⟩) 3 3) (owns_off (i := 0) (u := .bool true) HRow.out hrr) hrr) hrr) hrr) hrr) (Below.refl _ _).drew
    have hKo : KeepsOthers W ((((((W.setCell ⟨x.heap.size + 1 + 1 + 1, 0, none⟩ (.bool true)).setCell ⟨x.heap.size + 1 + 1 + 1, 1, none⟩ (.slice (some ⟨g4, 0, none⟩) 3 3)).setCell ⟨x.heap.size + 1 + 1 + 1, 2, none⟩ (.bool n0)).setCell ⟨x.heap.size + 1 + 1 + 1, 3, none⟩ (.int .i64 n1)).setCell ⟨x.heap.size + 1 + 1 + 1, 4, none⟩ (.int .i64 n2)).drew) := (((((KeepsOthers.setCell _ _ _).trans (KeepsOthers.setCell _ _ _)).trans (KeepsOthers.setCell _ _ _)).trans (KeepsOthers.setCell _ _ _)).trans (KeepsOthers.setCell _ _ _)).trans (KeepsOthers.drew _)
    have hBx : Below x.heap.size x W := hB0.trans (hBt.below_of (by omega) (by omega))
    have hBel : Below x.heap.size x ((((((W.setCell ⟨x.heap.size + 1 + 1 + 1, 0, none⟩ (.bool true)).setCell ⟨x.heap.size + 1 + 1 + 1, 1, none⟩ (.slice (some ⟨g4, 0, none⟩) 3 3)).setCell ⟨x.heap.size + 1 + 1 + 1, 2, none⟩ (.bool n0)).setCell ⟨x.heap.size + 1 + 1 + 1, 3, none⟩ (.int .i64 n1)).setCell ⟨x.heap.size + 1 + 1 + 1, 4, none⟩ (.int .i64 n2)).drew) := (((((hBx.setCell (p := ⟨x.heap.size + 1 + 1 + 1, 0, none⟩) (by simp; omega) _).setCell (p := ⟨x.heap.size + 1 + 1 + 1, 1, none⟩) (by simp; omega) _).setCell (p := ⟨x.heap.size + 1 + 1 + 1, 2, none⟩) (by simp; omega) _).setCell (p := ⟨x.heap.size + 1 + 1 + 1, 3, none⟩) (by simp; omega) _).setCell (p := ⟨x.heap.size + 1 + 1 + 1, 4, none⟩) (by simp; omega) _).drew
    have HR : Hid (Bx5 ((((((W.setCell ⟨x.heap.size + 1 + 1 + 1, 0, none⟩ (.bool true)).setCell ⟨x.heap.size + 1 + 1 + 1, 1, none⟩ (.slice (some ⟨g4, 0, none⟩) 3 3)).setCell ⟨x.heap.size + 1 + 1 + 1, 2, none⟩ (.bool n0)).setCell ⟨x.heap.size + 1 + 1 + 1, 3, none⟩ (.int .i64 n1)).setCell ⟨x.heap.size + 1 + 1 + 1, 4, none⟩ (.int .i64 n2)).drew) (x.heap.size + 1 + 1 + 1) (.bool true) (.slice (some ⟨g4, 0, none⟩) 3 3) (.bool n0) (.int .i64 n1) (.int .i64 n2) ∧ World.ownsRow ((((((W.setCell ⟨x.heap.size + 1 + 1 + 1, 0, none⟩ (.bool true)).setCell ⟨x.heap.size + 1 + 1 + 1, 1, none⟩ (.slice (some ⟨g4, 0, none⟩) 3 3)).setCell ⟨x.heap.size + 1 + 1 + 1, 2, none⟩ (.bool n0)).setCell ⟨x.heap.size + 1 + 1 + 1, 3, none⟩ (.int .i64 n1)).setCell ⟨x.heap.size + 1 + 1 + 1, 4, none⟩ (.int .i64 n2)).drew) W0.heap.size 29 3 (.slice (some ⟨g4, 0, none⟩) (3 + 1) cap4) (3 + 1) (cs3 (spF false (L.getD 0 noSp) (M.getD 0 noSp)) ++ cs3 (spF false (L.getD 1 noSp) (M.getD 1 noSp)) ++ cs3 (spF false (L.getD 2 noSp) (M.getD 2 noSp)) ++ cs3 (n0, n1, n2)) ∧ KeepsOthers W ((((((W.setCell ⟨x.heap.size + 1 + 1 + 1, 0, none⟩ (.bool true)).setCell ⟨x.heap.size + 1 + 1 + 1, 1, none⟩ (.slice (some ⟨g4, 0, none⟩) 3 3)).setCell ⟨x.heap.size + 1 + 1 + 1, 2, none⟩ (.bool n0)).setCell ⟨x.heap.size + 1 + 1 + 1, 3, none⟩ (.int .i64 n1)).setCell ⟨x.heap.size + 1 + 1 + 1, 4, none⟩ (.int .i64 n2)).drew) ∧ Below x.heap.size x ((((((W.setCell ⟨x.heap.size + 1 + 1 + 1, 0, none⟩ (.bool true)).setCell ⟨x.heap.size + 1 + 1 + 1, 1, none⟩ (.slice (some ⟨g4, 0, none⟩) 3 3)).setCell ⟨x.heap.size + 1 + 1 + 1, 2, none⟩ (.bool n0)).setCell ⟨x.heap.size + 1 + 1 + 1, 3, none⟩ (.int .i64 n1)).setCell ⟨x.heap.size + 1 + 1 + 1, 4, none⟩ (.int .i64 n2)).drew)) := ⟨hfill, hrowr, hKo, hBel⟩
    clear hfill hrowr hKo hBel HRow cb c9 c10 c11 rl r0 r1 r2 r3 r4 rf hres
    generalize (((((W.setCell ⟨x.heap.size + 1 + 1 + 1, 0, none⟩ (.bool true)).setCell ⟨x.heap.size + 1 + 1 + 1, 1, none⟩ (.slice (some ⟨g4, 0, none⟩) 3 3)).setCell ⟨x.heap.size + 1 + 1 + 1, 2, none⟩ (.bool n0)).setCell ⟨x.heap.size + 1 + 1 + 1, 3, none⟩ (.int .i64 n1)).setCell ⟨x.heap.size + 1 + 1 + 1, 4, none⟩ (.int .i64 n2)).drew = Wr at HR ⊢
    gi_wp2
    obtain ⟨hfill, hrowr, hKo, hBel⟩ := HR.out
    have hK' := hKo.same D' _ hK rfl
    refine ⟨by simp, .inl ⟨_, _, rfl, run_takeDeferred hK', ?_⟩⟩
    have hkeep : ∀ {b o : Nat} {v : Value}, Wr.cell? ⟨b, o, none⟩ = some v → (Wr.putObj D' (.deferred none)).cell? ⟨b, o, none⟩ = some v := fun h => cell_kept h (grownBy_putObj' _ D' (.deferred none)) (fun r e => by cases e; exact ⟨_, hK', rfl⟩)
    have e0 := hkeep hfill.c0
    have e1 := hkeep hfill.c1
    have e2 := hkeep hfill.c2
    have e3 := hkeep hfill.c3
    have e4 := hkeep hfill.c4
    refine ⟨.agg #[.bool true, .slice (some ⟨g4, 0, none⟩) 3 3, .bool n0, .int .i64 n1, .int .i64 n2], ?_, ?_⟩
    · simp [results, Try.results34, go_sem, e0, e1, e2, e3, e4]
    · rw [stB_all hoa hob, HK.out]
      have hgl := (owns_cap hrowr).2.2
      have hBf : Below x.heap.size x (Wr.putObj D' (.deferred none)) := hBel.trans (belowK_b (w := W0) hB0.size _ D' _ _ hD hK' rfl rfl)
      have hsz4 : (Wr.putObj D' (.deferred none)).heap.size = Wr.heap.size := by simp
      have cA : ∀ j, j < 12 → (Wr.putObj D' (.deferred none)).cell? ⟨g4, j, none⟩ = (cs3 (spF false (L.getD 0 noSp) (M.getD 0 noSp)) ++ cs3 (spF false (L.getD 1 noSp) (M.getD 1 noSp)) ++ cs3 (spF false (L.getD 2 noSp) (M.getD 2 noSp)) ++ cs3 (n0, n1, n2))[j]? := fun j hj => by
        have h := World.ownsRow.cellAt hrowr j (by omega)
        rw [List.getElem?_eq_getElem (by simpa [cs3] using hj)] at h ⊢
        exact hkeep h
      refine ⟨_, rfl, ⟨_, _, rfl, by unfold maxLen; simp [row3], .inr ⟨g4, 0, rfl, by omega, by omega, Nat.le_refl _, fun _ k => ?_, fun j hj => ?_⟩⟩, hBf⟩
      · obtain ⟨ob, hob4, hcb⟩ := cells_of_cell (W := Wr) (a := ⟨g4, 0, none⟩) (v := .bool (spF false (L.getD 0 noSp) (M.getD 0 noSp)).1) (World.ownsRow.cellAt hrowr 0 (by omega))
        exact (World.frozen?_of_block (a := ⟨g4, k, none⟩) (grownBy_keeps_cells (grownBy_putObj' _ D' (.deferred none)) (fun r e => by cases e; exact ⟨_, hK', rfl⟩) hob4 hcb)).trans (World.ownsRow.frozenAt hrowr k)
      · match j, hj with
        | 0, _ => exact ⟨cA 0 (by omega), cA 1 (by omega), cA 2 (by omega)⟩
        | 1, _ => exact ⟨cA 3 (by omega), cA 4 (by omega), cA 5 (by omega)⟩
        | 2, _ => exact ⟨cA 6 (by omega), cA 7 (by omega), cA 8 (by omega)⟩
        | j + 3, hj => exact absurd hj (by simp [row3])
  case stop =>
    rintro D' cc pre W hD ⟨k, hk, rfl⟩ hF hK
    exact hF.elim

end Go.Proofs.Ytdomalclpjijaaa
