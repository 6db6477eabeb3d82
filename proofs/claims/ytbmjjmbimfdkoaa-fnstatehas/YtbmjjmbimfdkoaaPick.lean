/-
  The contracts of the reader of codes (open, pick): it hands back a number in its range and turns nothing but its own place.
-/
import Derived.Test.YtbmjjmbimfdkoaaSpan
namespace Go.Proofs.Ytbmjjmbimfdkoaa
open Go.RowKit
set_option linter.unusedVariables false
set_option linter.unusedSimpArgs false

/-- what is told of a row of bytes that came in -/
def IsRow (w : World) (a : Option Addr) (len cap : Nat) (zs : List Int) : Prop :=
  (a = none ∧ len = 0 ∧ cap = 0 ∧ zs = []) ∨
  ∃ x, a = some x ∧ len ≤ cap ∧ cap ≤ maxLen ∧ zs.length = cap ∧ (∀ i, i < zs.length → w.cell? (x.add i) = some (.int .u8 (zs.getD i 0))) ∧ ∀ n ∈ zs, (Lit.int .u8 n).wf = true

/-- a reader lies at block r: its slice, its place (at most B) -/
structure Rd (x : World) (r B : Nat) : Prop where
  it : ∃ (a : Option Addr) (len cap : Nat) (p : Int), x.cell? ⟨r, 0, none⟩ = some (.slice a len cap) ∧ x.cell? ⟨r, 1, none⟩ = some (.int .i64 p) ∧ 0 ≤ p ∧ p ≤ B ∧ len ≤ 2000 ∧ x.frozen? ⟨r, 1, none⟩ = false ∧ r < x.heap.size ∧
    (len = 0 ∨ ∃ (b off : Nat) (zs : List Int), a = some ⟨b, off, none⟩ ∧ b < r ∧ len ≤ zs.length ∧ ∀ j, j < len → x.cell? ⟨b, off + j, none⟩ = some (.int .u8 (zs.getD j 0)) ∧ 0 ≤ zs.getD j 0 ∧ zs.getD j 0 ≤ 255)

/-- nothing has turned but the reader's own place; new memory may have been laid -/
structure Drawn (r B : Nat) (x y : World) : Prop where
  size : x.heap.size ≤ y.heap.size
  cell : ∀ b o, b ≠ r → b < x.heap.size → y.cell? ⟨b, o, none⟩ = x.cell? ⟨b, o, none⟩
  frozen : ∀ b o, b ≠ r → b < x.heap.size → y.frozen? ⟨b, o, none⟩ = x.frozen? ⟨b, o, none⟩
  below : Below r x y
  rd : Rd y r B
  blk : ∀ b, b ≠ r → b < x.heap.size → y.heap[b]? = x.heap[b]?

theorem Drawn.drewOne {r B : Nat} {x y : World} (h : Drawn r B x y) : Drawn r B x y.drew :=
  ⟨h.size, h.cell, h.frozen, h.below.drew, ⟨h.rd.it⟩, h.blk⟩
theorem Drawn.drewN {r B : Nat} {x y : World} (h : Drawn r B x y) (n : Nat) : Drawn r B x (y.drewN n) := by
  induction n with
  | zero => exact h
  | succ n ih => exact ih.drewOne
theorem drawn_set {x : World} {r B : Nat} {p : Int} (h : Rd x r B) (hp : x.cell? ⟨r, 1, none⟩ = some (.int .i64 p)) : Drawn r (B + 1) x (x.setCell ⟨r, 1, none⟩ (.int .i64 (p + 1))) := by
  obtain ⟨a, len, cap, p', c0, c1, p0, p1, hl, hf, hr, hrow⟩ := h.it
  obtain rfl : p' = p := by rw [hp] at c1; simpa using c1.symm
  have hb : Below r x (x.setCell ⟨r, 1, none⟩ (.int .i64 (p' + 1))) := (Below.refl r x).setCell (p := ⟨r, 1, none⟩) (Nat.le_refl _) _
  have hz : (x.setCell ⟨r, 1, none⟩ (.int .i64 (p' + 1))).heap.size = x.heap.size := by simp
  refine ⟨by omega, ?_, ?_, hb, ⟨a, len, cap, p' + 1, ?_, ?_, by omega, by omega, hl, ?_, by omega, ?_⟩, fun b hne _ => Below.heap_setCell x ⟨r, 1, none⟩ _ b hne⟩
  · intro b o hne _
    simp [go_sem, hne]
  · intro b o hne _
    simp [go_sem, hne]
  · simp [go_sem, c0]
  · simp [go_sem, c1]
  · simp [go_sem, hf]
  · rcases hrow with h0 | ⟨b, off, zs, e, hlt, hz', hcell⟩
    · exact .inl h0
    · refine .inr ⟨b, off, zs, e, hlt, hz', fun j hj => ?_⟩
      obtain ⟨e1, e2, e3⟩ := hcell j hj
      exact ⟨(hb.cell (p := ⟨b, off + j, none⟩) hlt).trans e1, e2, e3⟩

theorem xor_nonneg (a b : Int) (h1 : 0 ≤ a) (h2 : a < 4611686018427387904) (h3 : 0 ≤ b) (h4 : b < 4611686018427387904) : 0 ≤ bits .xor .i64 a b := by
  obtain ⟨A, rfl⟩ := Int.eq_ofNat_of_zero_le h1
  obtain ⟨B, rfl⟩ := Int.eq_ofNat_of_zero_le h3
  have hx : A ^^^ B < 2 ^ 62 := Nat.xor_lt_two_pow (by omega) (by omega)
  have e1 : (BitVec.ofInt 64 (A : Int)).toNat = A := by
    rw [BitVec.ofInt_natCast, BitVec.toNat_ofNat]; exact Nat.mod_eq_of_lt (by omega)
  have e2 : (BitVec.ofInt 64 (B : Int)).toNat = B := by
    rw [BitVec.ofInt_natCast, BitVec.toNat_ofNat]; exact Nat.mod_eq_of_lt (by omega)
  show 0 ≤ IntKind.i64.wrap ((BitVec.ofInt 64 (A : Int) ^^^ BitVec.ofInt 64 (B : Int)).toNat : Int)
  rw [BitVec.toNat_xor, e1, e2, IntKind.wrap_i64]
  omega
theorem mix_nonneg (z y k d : Int) (z0 : 0 ≤ z) (z1 : z ≤ 255) (y0 : 0 ≤ y) (y1 : y ≤ 255) (k0 : 0 ≤ k) (k1 : k ≤ 100000) (d0 : 0 ≤ d) (d1 : d ≤ k) :
    0 ≤ bits .xor .i64 (wrap64 (z * 131 + y * 1117 + k * 29 + wrap64 (wrap64 d * 53))) (wrap64 ((wrap64 (z * 131 + y * 1117 + k * 29 + wrap64 (wrap64 d * 53))).tdiv 64)) := by
  have e : wrap64 (z * 131 + y * 1117 + k * 29 + wrap64 (wrap64 d * 53)) = z * 131 + y * 1117 + k * 29 + d * 53 := by unfold wrap64; omega
  rw [e]
  have e2 : (z * 131 + y * 1117 + k * 29 + d * 53).tdiv 64 = (z * 131 + y * 1117 + k * 29 + d * 53) / 64 := Int.tdiv_eq_ediv_of_nonneg (by omega)
  rw [e2]
  have e3 : wrap64 ((z * 131 + y * 1117 + k * 29 + d * 53) / 64) = (z * 131 + y * 1117 + k * 29 + d * 53) / 64 := by unfold wrap64; omega
  rw [e3]
  exact xor_nonneg _ _ (by omega) (by omega) (by omega) (by omega)

set_option maxHeartbeats 1000000 in
theorem pick_any (r B : Nat) (n : Int) (x : World) (h : Rd x r B) (hB : B ≤ 100000) (hn : n ≤ 100000) :
    Calls Try.prog 69 #[.pointer (some ⟨r, 0, none⟩), .int .i64 n] x fun e y => ∃ v : Int, e = .returned (.int .i64 v) ∧ 0 ≤ v ∧ (v < n ∨ v = 0) ∧ Drawn r (B + 1) x y := by
  obtain ⟨a, len, cap, p, c0, c1, p0, p1, hl, hf, hr, hrow⟩ := h.it
  have hD := drawn_set h c1
  by_cases h1 : n < 1
  · go_enter Try.func69, Try.ntmps69
    go_wp2
    go_ret
    exact ⟨0, rfl, by omega, .inr rfl, hD⟩
  · by_cases h0 : len = 0
    · subst h0
      clear hrow
      go_enter Try.func69, Try.ntmps69
      go_wp2
      go_ret
      exact ⟨0, rfl, by omega, .inr rfl, hD⟩
    · have hlen : ((len : Int) == 0) = false := by simp [h0]
      rcases hrow with hrow | ⟨b, off, zs, rfl, hb, hz, hcell⟩
      · omega
      have hne : ¬ b = r := by omega
      obtain ⟨k, rfl⟩ := Int.eq_ofNat_of_zero_le p0
      by_cases hk : k < len
      · obtain ⟨z, z0, z1, cz⟩ : ∃ z : Int, 0 ≤ z ∧ z ≤ 255 ∧ x.cell? ⟨b, off + k, none⟩ = some (.int .u8 z) := ⟨zs.getD k 0, (hcell k hk).2.1, (hcell k hk).2.2, (hcell k hk).1⟩
        have hki : (k : Int) < (len : Int) := by omega
        clear hcell hz hlen
        go_enter Try.func69, Try.ntmps69
        go_wp2
        go_ret
        exact ⟨z % n, rfl, Int.emod_nonneg _ (by omega), .inl (Int.emod_lt_of_pos _ (by omega)), hD⟩
      · obtain ⟨z, z0, z1, cz⟩ : ∃ z : Int, 0 ≤ z ∧ z ≤ 255 ∧ x.cell? ⟨b, off + k % len, none⟩ = some (.int .u8 z) := ⟨_, (hcell _ (Nat.mod_lt k (by omega))).2.1, (hcell _ (Nat.mod_lt k (by omega))).2.2, (hcell _ (Nat.mod_lt k (by omega))).1⟩
        obtain ⟨y, y0, y1, cy⟩ : ∃ z : Int, 0 ≤ z ∧ z ≤ 255 ∧ x.cell? ⟨b, off + (k * 7 + 3) % len, none⟩ = some (.int .u8 z) := ⟨_, (hcell _ (Nat.mod_lt (k * 7 + 3) (by omega))).2.1, (hcell _ (Nat.mod_lt (k * 7 + 3) (by omega))).2.2, (hcell _ (Nat.mod_lt (k * 7 + 3) (by omega))).1⟩
        have hki : ¬ (k : Int) < (len : Int) := by omega
        have hlp : (0 : Int) < (len : Int) := by omega
        have t1 : (k : Int).tmod (len : Int) = (k : Int) % (len : Int) := Int.tmod_eq_emod_of_nonneg (by omega)
        have t2 : ((k : Int) * 7 + 3).tmod (len : Int) = ((k : Int) * 7 + 3) % (len : Int) := Int.tmod_eq_emod_of_nonneg (by omega)
        have t3 : (k : Int).tdiv (len : Int) = (k : Int) / (len : Int) := Int.tdiv_eq_ediv_of_nonneg (by omega)
        have q1 : 0 ≤ (k : Int).tmod (len : Int) := by rw [t1]; exact Int.emod_nonneg _ (by omega)
        have q2 : (k : Int).tmod (len : Int) < (len : Int) := by rw [t1]; exact Int.emod_lt_of_pos _ hlp
        have q3 : 0 ≤ ((k : Int) * 7 + 3).tmod (len : Int) := by rw [t2]; exact Int.emod_nonneg _ (by omega)
        have q4 : ((k : Int) * 7 + 3).tmod (len : Int) < (len : Int) := by rw [t2]; exact Int.emod_lt_of_pos _ hlp
        have q5 : 0 ≤ (k : Int).tdiv (len : Int) := by rw [t3]; exact Int.ediv_nonneg (by omega) (by omega)
        have q6 : (k : Int).tdiv (len : Int) ≤ (k : Int) := by rw [t3]; exact Int.ediv_le_self _ (by omega)
        have e1 : ((k : Int).tmod (len : Int)).toNat = k % len := by rw [t1, ← Int.natCast_emod]; rfl
        have e2 : (((k : Int) * 7 + 3).tmod (len : Int)).toNat = (k * 7 + 3) % len := by rw [t2, show (k : Int) * 7 + 3 = ((k * 7 + 3 : Nat) : Int) from by omega, ← Int.natCast_emod]; rfl
        have s1 : IntKind.i64.wrap z = z := IntWalk.i64_in _ (by omega)
        have s2 : IntKind.i64.wrap (z * 131) = z * 131 := IntWalk.i64_in _ (by omega)
        have s3 : IntKind.i64.wrap ((k : Int) * 7) = (k : Int) * 7 := IntWalk.i64_in _ (by omega)
        have s4 : IntKind.i64.wrap ((k : Int) * 7 + 3) = (k : Int) * 7 + 3 := IntWalk.i64_in _ (by omega)
        have s5 : IntKind.i64.wrap y = y := IntWalk.i64_in _ (by omega)
        have s6 : IntKind.i64.wrap (y * 1117) = y * 1117 := IntWalk.i64_in _ (by omega)
        have s7 : IntKind.i64.wrap (z * 131 + y * 1117) = z * 131 + y * 1117 := IntWalk.i64_in _ (by omega)
        have s8 : IntKind.i64.wrap ((k : Int) * 29) = (k : Int) * 29 := IntWalk.i64_in _ (by omega)
        have s9 : IntKind.i64.wrap (z * 131 + y * 1117 + (k : Int) * 29) = z * 131 + y * 1117 + (k : Int) * 29 := IntWalk.i64_in _ (by omega)
        have s10 : IntKind.i64.wrap ((k : Int).tdiv (len : Int)) = (k : Int).tdiv (len : Int) := IntWalk.i64_in _ (by omega)
        have s11 : IntKind.i64.wrap ((k : Int).tdiv (len : Int) * 53) = (k : Int).tdiv (len : Int) * 53 := IntWalk.i64_in _ (by omega)
        have s12 : IntKind.i64.wrap (z * 131 + y * 1117 + (k : Int) * 29 + (k : Int).tdiv (len : Int) * 53) = z * 131 + y * 1117 + (k : Int) * 29 + (k : Int).tdiv (len : Int) * 53 := IntWalk.i64_in _ (by omega)
        rw [← e1] at cz
        rw [← e2] at cy
        clear hcell hz e1 e2 t1 t2 t3
        go_enter Try.func69, Try.ntmps69
        go_wp2
        go_quiet (fail)
        go_wp2
        go_ret
        have hm := mix_nonneg z y (k : Int) ((k : Int) / (len : Int)) z0 z1 y0 y1 (by omega) (by omega) (Int.ediv_nonneg (by omega) (by omega)) (Int.ediv_le_self _ (by omega))
        exact ⟨_, rfl, Int.tmod_nonneg _ hm, .inl (Int.tmod_lt_of_pos _ (by omega)), hD.drewN _⟩
end Go.Proofs.Ytbmjjmbimfdkoaa
