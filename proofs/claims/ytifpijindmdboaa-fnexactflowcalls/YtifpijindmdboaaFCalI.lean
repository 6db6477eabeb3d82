/-
  What an instruction may call: the contract of the program's callsFrom.
-/
import Derived.Test.YtifpijindmdboaaFCal
namespace Go.Proofs.Ytifpijindmdboaa
open Go.RowKit
set_option linter.unusedVariables false
set_option linter.unusedSimpArgs false
theorem ta_set_call (v : Value) (w : World) : Sem.run Try.prog (Instr.typeAssert (.iface 154 v) 83 131 true) w = .ok (.tuple #[.agg #[.int .i64 0, .int .i64 0, .int .i64 0], .bool false]) w := by kernel_rfl
theorem ta_move_call (v : Value) (w : World) : Sem.run Try.prog (Instr.typeAssert (.iface 156 v) 83 131 true) w = .ok (.tuple #[.agg #[.int .i64 0, .int .i64 0, .int .i64 0], .bool false]) w := by kernel_rfl
theorem ta_ask_call (v : Value) (w : World) : Sem.run Try.prog (Instr.typeAssert (.iface 141 v) 83 131 true) w = .ok (.tuple #[.agg #[.int .i64 0, .int .i64 0, .int .i64 0], .bool false]) w := by kernel_rfl
theorem ta_do_call (v : Value) (w : World) : Sem.run Try.prog (Instr.typeAssert (.iface 158 v) 83 131 true) w = .ok (.tuple #[.agg #[.int .i64 0, .int .i64 0, .int .i64 0], .bool false]) w := by kernel_rfl
theorem ta_go_call (v : Value) (w : World) : Sem.run Try.prog (Instr.typeAssert (.iface 160 v) 83 131 true) w = .ok (.tuple #[.agg #[.int .i64 0, .int .i64 0, .int .i64 0], .bool false]) w := by kernel_rfl
theorem ta_less_call (v : Value) (w : World) : Sem.run Try.prog (Instr.typeAssert (.iface 162 v) 83 131 true) w = .ok (.tuple #[.agg #[.int .i64 0, .int .i64 0, .int .i64 0], .bool false]) w := by kernel_rfl
theorem ta_same_call (v : Value) (w : World) : Sem.run Try.prog (Instr.typeAssert (.iface 163 v) 83 131 true) w = .ok (.tuple #[.agg #[.int .i64 0, .int .i64 0, .int .i64 0], .bool false]) w := by kernel_rfl
theorem ta_call_call (v : Value) (w : World) : Sem.run Try.prog (Instr.typeAssert (.iface 131 v) 83 131 true) w = .ok (.tuple #[v, .bool true]) w := by kernel_rfl
theorem ta_back_call (v : Value) (w : World) : Sem.run Try.prog (Instr.typeAssert (.iface 122 v) 83 131 true) w = .ok (.tuple #[.agg #[.int .i64 0, .int .i64 0, .int .i64 0], .bool false]) w := by kernel_rfl
theorem ta_hold_call (v : Value) (w : World) : Sem.run Try.prog (Instr.typeAssert (.iface 165 v) 83 131 true) w = .ok (.tuple #[.agg #[.int .i64 0, .int .i64 0, .int .i64 0], .bool false]) w := by kernel_rfl
theorem ta_put_call (v : Value) (w : World) : Sem.run Try.prog (Instr.typeAssert (.iface 167 v) 83 131 true) w = .ok (.tuple #[.agg #[.int .i64 0, .int .i64 0, .int .i64 0], .bool false]) w := by kernel_rfl
theorem ta_get_call (v : Value) (w : World) : Sem.run Try.prog (Instr.typeAssert (.iface 169 v) 83 131 true) w = .ok (.tuple #[.agg #[.int .i64 0, .int .i64 0, .int .i64 0], .bool false]) w := by kernel_rfl
theorem ta_nil_call (w : World) : Sem.run Try.prog (Instr.typeAssert .nilIface 83 131 true) w = .ok (.tuple #[.agg #[.int .i64 0, .int .i64 0, .int .i64 0], .bool false]) w := by kernel_rfl
attribute [local go_sem] ta_set_call ta_move_call ta_ask_call ta_do_call ta_go_call ta_less_call ta_same_call ta_call_call ta_back_call ta_hold_call ta_put_call ta_get_call ta_nil_call

set_option maxRecDepth 100000 in
set_option maxHeartbeats 4000000 in
theorem callsFrom_nil (x : World) (a : Bool) (s : Value) (c : Bool) (l u : Int) :
    Calls Try.prog 59 #[.nilIface, .agg #[.bool a, s, .bool c, .int .i64 l, .int .i64 u]] x fun e y => ∃ v, e = .returned v ∧ (∀ N, IRow 2 true y x.heap.size y.heap.size v 0 N) ∧ Below x.heap.size x y := by
  go_enter Try.func59, Try.ntmps59
  go_wp2_with fail
  go_ret
  exact ⟨_, rfl, fun N => IRow.nil, by first | exact ((Below.refl _ _).alloc (Nat.le_refl _) _).alloc (by simp) _ | exact (Below.refl _ _).alloc (Nat.le_refl _) _ | go_grown⟩

set_option maxRecDepth 100000 in
set_option maxHeartbeats 8000000 in
theorem callsFrom_ins (x : World) (I : I4) (h1 : 1 ≤ I.1) (h2 : I.1 ≤ 12) (hC : I.1 = 8 → 0 ≤ I.2.2.2 ∧ I.2.2.2 ≤ 2) (z : Bool) (C E : Nat) (a : Bool) (s : Value) (L : List Sp) (c : Bool) (l u : Int) (hs : SpsAt z x C E s L) (hL : L.length = 3) :
    Calls Try.prog 59 #[ifcF I, .agg #[.bool a, s, .bool c, .int .i64 l, .int .i64 u]] x fun e y => ∃ v, e = .returned v ∧ IRow 2 true y x.heap.size y.heap.size v (if I.1 = 8 then kindsAt (L.getD I.2.2.2.toNat noSp) else []).length (callN I.2.2.1 (if I.1 = 8 then kindsAt (L.getD I.2.2.2.toNat noSp) else [])) ∧ Below x.heap.size x y := by
  obtain ⟨K, A, B', C'⟩ := I
  simp only at h1 h2 hC ⊢
  obtain ⟨ps, cs, rfl⟩ := hs.shape
  by_cases h8 : K = 8
  · subst h8
    obtain ⟨r0, r2⟩ := hC rfl
    obtain ⟨r, rfl⟩ : ∃ r : Nat, C' = r := ⟨C'.toNat, by omega⟩
    rw [hL] at hs ⊢
    obtain ⟨g, o, rfl, hg, hq⟩ := hs.threeF hL
    have hr3 : r < 3 := by omega
    have hri : (r : Int) < 3 := by omega
    have hsp := hq r hr3
    simp only [if_true, Int.toNat_natCast]
    generalize L.getD r noSp = S at hsp ⊢
    obtain ⟨s1, s2, s3⟩ := S
    obtain ⟨q0, q1, q2⟩ := hsp
    simp only at q0 q1 q2
    have hlen := KL_len s1 s2 s3 3
    have hkk : ∀ z : World, _ := fun z => kinds_impl s1 s2 s3 z
    rw [show kindsAt (s1, s2, s3) = KL s1 s2 s3 3 from rfl]
    generalize KL s1 s2 s3 3 = KK at hlen hkk ⊢
    have HQ : Hid (Spn x g (o + r * 3) (s1, s2, s3) ∧ g < x.heap.size) := ⟨⟨q0, q1, q2⟩, hg⟩
    obtain ⟨i0, hi, hz0, hz1, hz2⟩ := infoCall2
    have HI : Hid (Try.prog.info? 94 = some i0 ∧ i0.zero = some (.agg #[.int .i64 0, .int .i64 0]) ∧ i0.size = 2 ∧ i0.bytes = 16) := ⟨hi, hz0, hz1, hz2⟩
    have hg1 : g < x.heap.size + 1 := by omega
    clear hi hz0 hz1 hz2 hq hs hL hr3 r0 r2 h1 h2 hC
    have HKC : Hid (∀ z : World, Calls Try.prog 94 #[.agg #[.bool s1, .int .i64 s2, .int .i64 s3]] z fun e y => ∃ v, e = .returned v ∧ Owns y (z.heap.size + 1) v KK ∧ Below z.heap.size z y) := hkk
    simp only [ifcF]
    go_enter Try.func59, Try.ntmps59
    go_wp2_with fail
    generalize hX : (x.alloc (.cells #[.bool a, .slice (some ⟨g, o, none⟩) 3 cs, .bool c, .int .i64 l, .int .i64 u] 36)).alloc (.cells #[.int .i64 A, .int .i64 B', .int .i64 r] 131) = X
    have HXB : Hid (Below x.heap.size x X) := by show Below _ _ _; rw [← hX]; exact ((Below.refl _ _).alloc (Nat.le_refl _) _).alloc (by simp) _
    have hb1 : X.cell? ⟨x.heap.size + 1, 1, none⟩ = some (.int .i64 B') := by rw [← hX]; simp [go_sem]
    have hbl : x.heap.size + 1 < X.heap.size := by rw [← hX]; simp
    clear hX q0 q1 q2 hg hg1 HQ
    refine (HKC.out X).mono ?_
    rintro e y ⟨v, rfl, hown, hby⟩
    have HY : Hid (Below x.heap.size x y) := HXB.out.trans (hby.mono HXB.out.size)
    have HBX : Hid (y.cell? ⟨x.heap.size + 1, 1, none⟩ = some (.int .i64 B') ∧ x.heap.size + 1 < y.heap.size) := ⟨(hby.cell (p := ⟨x.heap.size + 1, 1, none⟩) hbl).trans hb1, Nat.lt_of_lt_of_le hbl hby.size⟩
    obtain ⟨pk, ck, rfl, hkm, hkl⟩ := hown.look
    have HKL : Hid (∀ j, j < KK.length → ∃ gk, pk = some ⟨gk, 0, none⟩ ∧ gk < y.heap.size ∧ y.cell? ⟨gk, j, none⟩ = some (.int .i64 (KK.getD j 0))) := fun j hj => by
      rcases hkl with h0 | ⟨gk, e, _, hgk, hc⟩
      · omega
      · exact ⟨gk, e, hgk, (hc j hj).1⟩
    clear hown hkl hby hb1 hbl HXB HKC hkm
    generalize hn : KK.length = n at *
    have HN : Hid (KK.length = n) := hn
    clear hn
    have hni : (n : Int) ≤ 3 := by omega
    go_wp2_with fail
    go_loopw [5, 21] (fun v i z => ∃ k : Nat, k ≤ n ∧ i = .int .i64 k ∧ Hid (z.ownsRow y.heap.size 94 2 v k (cellsC B' (KK.take k)) ∧ Below y.heap.size y z)) (fun _ i _ => n - (intOf i).toNat)
    case atStart => exact ⟨0, by omega, rfl, World.ownsRow_nil _ _ _ _, Below.refl _ _⟩
    case round =>
      obtain ⟨k, hk, rfl, HZ⟩ := hrel
      have hzB := HZ.out.2
      have w1 := (hzB.cell (p := ⟨x.heap.size + 1, 1, none⟩) HBX.out.2).trans HBX.out.1
      have wl : x.heap.size + 1 < wr.heap.size := Nat.lt_of_lt_of_le HBX.out.2 hzB.size
      by_cases hlt : k < n
      · have hki : (k : Int) < (n : Int) := by omega
        obtain ⟨gk, rfl, hgk, hck⟩ := HKL.out k hlt
        have wk := (hzB.cell (p := ⟨gk, k, none⟩) hgk).trans hck
        have wgk : gk < wr.heap.size := Nat.lt_of_lt_of_le hgk hzB.size
        have HT : Hid (KK.take (k + 1) = KK.take k ++ [KK.getD k 0]) := takeC (by rw [HN.out]; exact hlt)
        generalize KK.getD k 0 = Q at wk HT
        clear hck
        go_wp2_with (at_builtin; refine wpList_append_own _ rfl _ _ 48 rfl y.heap.size 94 i0 (.agg #[.int .i64 0, .int .i64 0]) 2 16 Try.underlying48 HI.out.1 HI.out.2.1 HI.out.2.2.1 HI.out.2.2.2 rfl (by decide) _ _ _ rfl (World.ownsRow.alloc HZ.out.1 _) ⟨wr.heap.size, 0, none⟩ 1 1 [.int .i64 B', .int .i64 Q] rfl rfl ?c1 ?c2 ?c3 ?c4 ?c5 ?_)
        case c1 =>
          intro j u' hu'
          rw [Addr.add_mid]
          match j, hu' with
          | 0, hu' => obtain rfl : Value.int .i64 B' = u' := by simpa using hu'
                      simp [go_sem]
          | 1, hu' => obtain rfl : Value.int .i64 Q = u' := by simpa using hu'
                      simp [go_sem]
          | j + 2, hu' => simp at hu'
        case c2 => intro u' hu'; simp at hu'; rcases hu' with rfl | rfl <;> rfl
        case c3 => unfold maxLen; omega
        case c4 => omega
        case c5 => have := hzB.size; simp; omega
        · intro v' w3 hown' hgrow _
          have hB3 : Below y.heap.size wr w3 := ((Below.refl y.heap.size wr).alloc hzB.size _).grown hgrow (by have := hzB.size; simp; omega) (fun q hq => ((World.ownsRow.alloc HZ.out.1 (.cells #[.int .i64 B', .int .i64 Q] 94)).lt q hq).1)
          have HZ3 : Hid (w3.ownsRow y.heap.size 94 2 v' (k + 1) (cellsC B' (KK.take (k + 1))) ∧ Below y.heap.size y w3) := ⟨by rw [HT.out, cellsC_app]; exact hown', hzB.trans hB3⟩
          clear hown' hgrow hB3 w1 wl wk wgk hzB
          go_wp2
          go_roundw
          case rel => exact ⟨k + 1, by omega, by go_num, HZ3⟩
          case measure => simp [intOf]; omega
      · obtain rfl : k = n := by omega
        have hki : ¬ (k : Int) < (k : Int) := by omega
        go_wp2_with fail
        go_ret
        have hall : KK.take k = KK := List.take_of_length_le (by rw [HN.out]; exact Nat.le_refl _)
        have ho := HZ.out.1
        rw [hall] at ho
        have hirow := callsOwn (b := B') (K := KK) (by rw [HN.out]; exact ho) (by rw [HN.out]; omega)
        exact ⟨u5, rfl, hirow.wide HY.out.size (Nat.le_refl _) (Nat.le_refl _), HY.out.trans (hzB.mono HY.out.size)⟩
  · simp only [h8, if_false]
    obtain rfl | rfl | rfl | rfl | rfl | rfl | rfl | rfl | rfl | rfl | rfl : K = 1 ∨ K = 2 ∨ K = 3 ∨ K = 4 ∨ K = 5 ∨ K = 6 ∨ K = 7 ∨ K = 9 ∨ K = 10 ∨ K = 11 ∨ K = 12 := by omega
    all_goals
      clear h1 h2 h8 hC hs hL
      simp only [ifcF]
      go_enter Try.func59, Try.ntmps59
      go_wp2_with fail
      go_ret
      exact ⟨_, rfl, IRow.nil, by first | exact ((Below.refl _ _).alloc (Nat.le_refl _) _).alloc (by simp) _ | exact (Below.refl _ _).alloc (Nat.le_refl _) _ | go_grown⟩

end Go.Proofs.Ytifpijindmdboaa
