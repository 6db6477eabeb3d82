import Derived.Test.YtbjegekfghihkaaB26
/-
  What an instruction may call: the contract of the program's callsFrom.
-/
namespace Go.Proofs.Ytbjegekfghihkaa
open Go.RowKit
set_option linter.unusedVariables false
set_option linter.unusedSimpArgs false
theorem ta_set_call (v : Value) (w : World) : Sem.run Try.prog (Instr.typeAssert (.iface 133 v) 74 109 true) w = .ok (.tuple #[.agg #[.int .i64 0, .int .i64 0, .int .i64 0], .bool false]) w := by kernel_rfl
theorem ta_move_call (v : Value) (w : World) : Sem.run Try.prog (Instr.typeAssert (.iface 135 v) 74 109 true) w = .ok (.tuple #[.agg #[.int .i64 0, .int .i64 0, .int .i64 0], .bool false]) w := by kernel_rfl
theorem ta_ask_call (v : Value) (w : World) : Sem.run Try.prog (Instr.typeAssert (.iface 116 v) 74 109 true) w = .ok (.tuple #[.agg #[.int .i64 0, .int .i64 0, .int .i64 0], .bool false]) w := by kernel_rfl
theorem ta_do_call (v : Value) (w : World) : Sem.run Try.prog (Instr.typeAssert (.iface 137 v) 74 109 true) w = .ok (.tuple #[.agg #[.int .i64 0, .int .i64 0, .int .i64 0], .bool false]) w := by kernel_rfl
theorem ta_go_call (v : Value) (w : World) : Sem.run Try.prog (Instr.typeAssert (.iface 139 v) 74 109 true) w = .ok (.tuple #[.agg #[.int .i64 0, .int .i64 0, .int .i64 0], .bool false]) w := by kernel_rfl
theorem ta_less_call (v : Value) (w : World) : Sem.run Try.prog (Instr.typeAssert (.iface 141 v) 74 109 true) w = .ok (.tuple #[.agg #[.int .i64 0, .int .i64 0, .int .i64 0], .bool false]) w := by kernel_rfl
theorem ta_same_call (v : Value) (w : World) : Sem.run Try.prog (Instr.typeAssert (.iface 142 v) 74 109 true) w = .ok (.tuple #[.agg #[.int .i64 0, .int .i64 0, .int .i64 0], .bool false]) w := by kernel_rfl
theorem ta_call_call (v : Value) (w : World) : Sem.run Try.prog (Instr.typeAssert (.iface 109 v) 74 109 true) w = .ok (.tuple #[v, .bool true]) w := by kernel_rfl
theorem ta_back_call (v : Value) (w : World) : Sem.run Try.prog (Instr.typeAssert (.iface 144 v) 74 109 true) w = .ok (.tuple #[.agg #[.int .i64 0, .int .i64 0, .int .i64 0], .bool false]) w := by kernel_rfl
theorem ta_hold_call (v : Value) (w : World) : Sem.run Try.prog (Instr.typeAssert (.iface 146 v) 74 109 true) w = .ok (.tuple #[.agg #[.int .i64 0, .int .i64 0, .int .i64 0], .bool false]) w := by kernel_rfl
theorem ta_put_call (v : Value) (w : World) : Sem.run Try.prog (Instr.typeAssert (.iface 148 v) 74 109 true) w = .ok (.tuple #[.agg #[.int .i64 0, .int .i64 0, .int .i64 0], .bool false]) w := by kernel_rfl
theorem ta_get_call (v : Value) (w : World) : Sem.run Try.prog (Instr.typeAssert (.iface 150 v) 74 109 true) w = .ok (.tuple #[.agg #[.int .i64 0, .int .i64 0, .int .i64 0], .bool false]) w := by kernel_rfl
theorem ta_nil_call (w : World) : Sem.run Try.prog (Instr.typeAssert .nilIface 74 109 true) w = .ok (.tuple #[.agg #[.int .i64 0, .int .i64 0, .int .i64 0], .bool false]) w := by kernel_rfl
attribute [local go_sem] ta_set_call ta_move_call ta_ask_call ta_do_call ta_go_call ta_less_call ta_same_call ta_call_call ta_back_call ta_hold_call ta_put_call ta_get_call ta_nil_call

set_option maxRecDepth 100000 in
set_option maxHeartbeats 4000000 in
theorem callsFrom_nil (x : World) (a : Bool) (s : Value) (c : Bool) (l u : Int) :
    Calls Try.prog 34 #[.nilIface, .agg #[.bool a, s, .bool c, .int .i64 l, .int .i64 u]] x fun e y => ∃ v, e = .returned v ∧ (∀ N, IRow 2 true y x.heap.size y.heap.size v 0 N) ∧ Below x.heap.size x y := by
  go_enter Try.func34, Try.ntmps34
  go_wp2_with fail
  go_ret
  exact ⟨_, rfl, fun N => IRow.nil, by first | exact ((Below.refl _ _).alloc (Nat.le_refl _) _).alloc (by simp) _ | exact (Below.refl _ _).alloc (Nat.le_refl _) _ | go_grown⟩

set_option maxRecDepth 100000 in
set_option maxHeartbeats 8000000 in
theorem callsFrom_ins (x : World) (I : I4) (h1 : 1 ≤ I.1) (h2 : I.1 ≤ 12) (hC : I.1 = 8 → 0 ≤ I.2.2.2 ∧ I.2.2.2 ≤ 2) (z : Bool) (C E : Nat) (a : Bool) (s : Value) (L : List Sp) (c : Bool) (l u : Int) (hs : SpsAt z x C E s L) (hL : L.length = 3) :
    Calls Try.prog 34 #[ifcF I, .agg #[.bool a, s, .bool c, .int .i64 l, .int .i64 u]] x fun e y => ∃ v, e = .returned v ∧ IRow 2 true y x.heap.size y.heap.size v (if I.1 = 8 then kindsAt (L.getD I.2.2.2.toNat noSp) else []).length (callN I.2.2.1 (if I.1 = 8 then kindsAt (L.getD I.2.2.2.toNat noSp) else [])) ∧ Below x.heap.size x y := by
  obtain ⟨K, A, B', C'⟩ := I
  simp only at h1 h2 hC ⊢
  obtain ⟨ps, cs, rfl⟩ := hs.shape
  by_cases h8 : K = 8
  · subst h8
    obtain ⟨r0, r2⟩ := hC rfl
    obtain ⟨r, rfl⟩ : ∃ r : Nat, C' = r := ⟨C'.toNat, by omega⟩
    rw [hL] at hs ⊢
    obtain ⟨g, o, rfl, hg, hq⟩ := hs.threeF hL
    have hr3 : r < 3 := by omega
    have hri : (r : Int) < 3 := by omega
    have hsp := hq r hr3
    simp only [if_true, Int.toNat_natCast]
    generalize L.getD r noSp = S at hsp ⊢
    obtain ⟨s1, s2, s3⟩ := S
    obtain ⟨q0, q1, q2⟩ := hsp
    simp only at q0 q1 q2
    have hlen := KL_len s1 s2 s3 3
    have hkk : ∀ z : World, _ := fun z => kinds_impl s1 s2 s3 z
    rw [show kindsAt (s1, s2, s3) = KL s1 s2 s3 3 from rfl]
    generalize KL s1 s2 s3 3 = KK at hlen hkk ⊢
    have HQ : Hid (Spn x g (o + r * 3) (s1, s2, s3) ∧ g < x.heap.size) := ⟨⟨q0, q1, q2⟩, hg⟩
    obtain ⟨i0, hi, hz0, hz1, hz2⟩ := infoCall2
    have HI : Hid (Try.prog.info? 78 = some i0 ∧ i0.zero = some (.agg #[.int .i64 0, .int .i64 0]) ∧ i0.size = 2 ∧ i0.bytes = 16) := ⟨hi, hz0, hz1, hz2⟩
    have hg1 : g < x.heap.size + 1 := by omega
    clear hi hz0 hz1 hz2 hq hs hL hr3 r0 r2 h1 h2 hC
    have HKC : Hid (∀ z : World, Calls Try.prog 64 #[.agg #[.bool s1, .int .i64 s2, .int .i64 s3]] z fun e y => ∃ v, e = .returned v ∧ Owns y (z.heap.size + 1) v KK ∧ Below z.heap.size z y) := hkk
    simp only [ifcF]
    go_enter Try.func34, Try.ntmps34
    go_wp2_with fail
    generalize hX : (x.alloc (.cells #[.bool a, .slice (some ⟨g, o, none⟩) 3 cs, .bool c, .int .i64 l, .int .i64 u] 37)).alloc (.cells #[.int .i64 A, .int .i64 B', .int .i64 r] 109) = X
    have HXB : Hid (Below x.heap.size x X) := by show Below _ _ _; rw [← hX]; exact ((Below.refl _ _).alloc (Nat.le_refl _) _).alloc (by simp) _
    have hb1 : X.cell? ⟨x.heap.size + 1, 1, none⟩ = some (.int .i64 B') := by rw [← hX]; simp [go_sem]
    have hbl : x.heap.size + 1 < X.heap.size := by rw [← hX]; simp
    clear hX q0 q1 q2 hg hg1 HQ
    refine (HKC.out X).mono ?_
    rintro e y ⟨v, rfl, hown, hby⟩
    have HY : Hid (Below x.heap.size x y) := HXB.out.trans (hby.mono HXB.out.size)
    have HBX : Hid (y.cell? ⟨x.heap.size + 1, 1, none⟩ = some (.int .i64 B') ∧ x.heap.size + 1 < y.heap.size) := ⟨(hby.cell (p := ⟨x.heap.size + 1, 1, none⟩) hbl).trans hb1, Nat.lt_of_lt_of_le hbl hby.size⟩
    obtain ⟨pk, ck, rfl, hkm, hkl⟩ := hown.look
    have HKL : Hid (∀ j, j < KK.length → ∃ gk, pk = some ⟨gk, 0, none⟩ ∧ gk < y.heap.size ∧ y.cell? ⟨gk, j, none⟩ = some (.int .i64 (KK.getD j 0))) := fun j hj => by
      rcases hkl with h0 | ⟨gk, e, _, hgk, hc⟩
      · omega
      · exact ⟨gk, e, hgk, (hc j hj).1⟩
    clear hown hkl hby hb1 hbl HXB HKC hkm
    generalize hn : KK.length = n at *
    have HN : Hid (KK.length = n) := hn
    clear hn
    have hni : (n : Int) ≤ 3 := by omega
    go_wp2_with fail
    go_loopw [5, 21] (fun v i z => ∃ k : Nat, k ≤ n ∧ i = .int .i64 k ∧ Hid (z.ownsRow y.heap.size 78 2 v k (cellsC B' (KK.take k)) ∧ Below y.heap.size y z)) (fun _ i _ => n - (intOf i).toNat)
    case atStart => exact ⟨0, by omega, rfl, World.ownsRow_nil _ _ _ _, Below.refl _ _⟩
    case round =>
      obtain ⟨k, hk, rfl, HZ⟩ := hrel
      have hzB := HZ.out.2
      have w1 := (hzB.cell (p := ⟨x.heap.size + 1, 1, none⟩) HBX.out.2).trans HBX.out.1
      have wl : x.heap.size + 1 < wr.heap.size := Nat.lt_of_lt_of_le HBX.out.2 hzB.size
      by_cases hlt : k < n
      · have hki : (k : Int) < (n : Int) := by omega
        obtain ⟨gk, rfl, hgk, hck⟩ := HKL.out k hlt
        have wk := (hzB.cell (p := ⟨gk, k, none⟩) hgk).trans hck
        have wgk : gk < wr.heap.size := Nat.lt_of_lt_of_le hgk hzB.size
        have HT : Hid (KK.take (k + 1) = KK.take k ++ [KK.getD k 0]) := takeC (by rw [HN.out]; exact hlt)
        generalize KK.getD k 0 = Q at wk HT
        clear hck
        go_wp2_with (at_builtin; refine wpList_append_own _ rfl _ _ 30 rfl y.heap.size 78 i0 (.agg #[.int .i64 0, .int .i64 0]) 2 16 Try.underlying30 HI.out.1 HI.out.2.1 HI.out.2.2.1 HI.out.2.2.2 rfl (by decide) _ _ _ rfl (World.ownsRow.alloc HZ.out.1 _) ⟨wr.heap.size, 0, none⟩ 1 1 [.int .i64 B', .int .i64 Q] rfl rfl ?c1 ?c2 ?c3 ?c4 ?c5 ?_)
        case c1 =>
          intro j u' hu'
          rw [Addr.add_mid]
          match j, hu' with
          | 0, hu' => obtain rfl : Value.int .i64 B' = u' := by simpa using hu'
                      simp [go_sem]
          | 1, hu' => obtain rfl : Value.int .i64 Q = u' := by simpa using hu'
                      simp [go_sem]
          | j + 2, hu' => simp at hu'
        case c2 => intro u' hu'; simp at hu'; rcases hu' with rfl | rfl <;> rfl
        case c3 => unfold maxLen; omega
        case c4 => omega
        case c5 => have := hzB.size; simp; omega
        · intro v' w3 hown' hgrow _
          have hB3 : Below y.heap.size wr w3 := ((Below.refl y.heap.size wr).alloc hzB.size _).grown hgrow (by have := hzB.size; simp; omega) (fun q hq => ((World.ownsRow.alloc HZ.out.1 (.cells #[.int .i64 B', .int .i64 Q] 78)).lt q hq).1)
          have HZ3 : Hid (w3.ownsRow y.heap.size 78 2 v' (k + 1) (cellsC B' (KK.take (k + 1))) ∧ Below y.heap.size y w3) := ⟨by rw [HT.out, cellsC_app]; exact hown', hzB.trans hB3⟩
          clear hown' hgrow hB3 w1 wl wk wgk hzB
          go_wp2
          go_roundw
          case rel => exact ⟨k + 1, by omega, by go_num, HZ3⟩
          case measure => simp [intOf]; omega
      · obtain rfl : k = n := by omega
        have hki : ¬ (k : Int) < (k : Int) := by omega
        go_wp2_with fail
        go_ret
        have hall : KK.take k = KK := List.take_of_length_le (by rw [HN.out]; exact Nat.le_refl _)
        have ho := HZ.out.1
        rw [hall] at ho
        have hirow := callsOwn (b := B') (K := KK) (by rw [HN.out]; exact ho) (by rw [HN.out]; omega)
        exact ⟨u5, rfl, hirow.wide HY.out.size (Nat.le_refl _) (Nat.le_refl _), HY.out.trans (hzB.mono HY.out.size)⟩
  · simp only [h8, if_false]
    obtain rfl | rfl | rfl | rfl | rfl | rfl | rfl | rfl | rfl | rfl | rfl : K = 1 ∨ K = 2 ∨ K = 3 ∨ K = 4 ∨ K = 5 ∨ K = 6 ∨ K = 7 ∨ K = 9 ∨ K = 10 ∨ K = 11 ∨ K = 12 := by omega
    all_goals
      clear h1 h2 h8 hC hs hL
      simp only [ifcF]
      go_enter Try.func34, Try.ntmps34
      go_wp2_with fail
      go_ret
      exact ⟨_, rfl, IRow.nil, by first | exact ((Below.refl _ _).alloc (Nat.le_refl _) _).alloc (by simp) _ | exact (Below.refl _ _).alloc (Nat.le_refl _) _ | go_grown⟩

end Go.Proofs.Ytbjegekfghihkaa

/-
  What an instruction may call: the contract of the program's FlowCalls.
-/
namespace Go.Proofs.Ytbjegekfghihkaa
open Go.RowKit
set_option linter.unusedVariables false
set_option linter.unusedSimpArgs false

theorem insOkF_call {i : I4} {q p : Int} (h : insOkF i q p = true) (h8 : i.1 = 8) : 0 ≤ i.2.2.2 ∧ i.2.2.2 ≤ 2 := by
  obtain ⟨K, a, b, c⟩ := i
  simp only at h8
  subst h8
  simp [insOkF, inI] at h
  dsimp only
  omega
theorem callsFrom_any (x0 : World) (P : List (List I4)) (n m : Nat) (hn : n < P.length) (hm : m ≤ (P.getD n []).length) (hok : progOkF P = true) (z : Bool) (C E : Nat) (a : Bool) (s : Value) (L : List Sp) (c : Bool) (l u : Int) (hs : SpsAt z x0 C E s L) (hL : L.length = 3) :
    Calls Try.prog 34 #[insF (P.getD n []) m, .agg #[.bool a, s, .bool c, .int .i64 l, .int .i64 u]] x0 fun e y => ∃ v, e = .returned v ∧ IRow 2 true y x0.heap.size y.heap.size v (callK (P.getD n []) m L).length (callN (callB (P.getD n []) m) (callK (P.getD n []) m L)) ∧ Below x0.heap.size x0 y := by
  by_cases he : m = (P.getD n []).length
  · rw [show insF (P.getD n []) m = .nilIface by simp only [insF]; rw [if_pos he], show callK (P.getD n []) m L = [] by simp only [callK]; rw [if_pos he]]
    refine (callsFrom_nil x0 a s c l u).mono ?_
    rintro e y ⟨v, rfl, h1, h2⟩
    exact ⟨v, rfl, h1 _, h2⟩
  · have hlt : m < (P.getD n []).length := by omega
    have hins := (progOkF_code hok hn).2 m hlt
    have hk := insOkF_kind hins
    rw [show insF (P.getD n []) m = ifcF ((P.getD n []).getD m i0) by simp only [insF]; rw [if_neg he]]
    have := callsFrom_ins x0 ((P.getD n []).getD m i0) hk.1 hk.2.1 (insOkF_call hins) z C E a s L c l u hs hL
    rw [show callK (P.getD n []) m L = (if ((P.getD n []).getD m i0).1 = 8 then kindsAt (L.getD ((P.getD n []).getD m i0).2.2.2.toNat noSp) else []) by simp only [callK]; rw [if_neg he]]
    exact this

/-- the kinds, and the procedure, with which one calls at a place from a state -/
def callsK (P : List (List I4)) (k at_ : Int) (a : Bool) (L : List Sp) (c : Sp) : List Int := if comesF P k at_ a L c = true then callK (P.getD k.toNat []) at_.toNat L else []
def callsB (P : List (List I4)) (k at_ : Int) : Int := callB (P.getD k.toNat []) at_.toNat
theorem callsK_len (P : List (List I4)) (k at_ : Int) (a : Bool) (L : List Sp) (c : Sp) : (callsK P k at_ a L c).length ≤ 3 := by
  unfold callsK
  split
  · exact callK_len _ _ _
  · simp

set_option maxRecDepth 100000 in
set_option maxHeartbeats 4000000 in
theorem flowCalls_impl (x0 : World) (B : Nat) (v : Value) (P : List (List I4)) (h : ProgAt x0 B v P) (k at_ : Int) (z : Bool) (C E : Nat) (a : Bool) (s : Value) (L : List Sp) (c : Bool) (l u : Int) (hs : SpsAt z x0 C E s L) :
    Calls Try.prog 11 #[v, .int .i64 k, .int .i64 at_, .agg #[.bool a, s, .bool c, .int .i64 l, .int .i64 u]] x0 fun e y => ∃ r, e = .returned r ∧ IRow 2 true y x0.heap.size y.heap.size r (callsK P k at_ a L (c, l, u)).length (callN (callsB P k at_) (callsK P k at_ a L (c, l, u))) ∧ Below x0.heap.size x0 y := by
  obtain ⟨p, cap, rfl, hm⟩ := h.shape
  obtain ⟨ps, cs, rfl⟩ := hs.shape
  have H : Hid (ProgAt x0 B (.slice p P.length cap) P) := h
  have HS : Hid (SpsAt z x0 C E (.slice ps L.length cs) L) := hs
  clear h hm hs
  go_enter Try.func11, Try.ntmps11
  go_wp2_with fail
  generalize hX : x0.alloc (.cells #[.bool a, .slice ps L.length cs, .bool c, .int .i64 l, .int .i64 u] 37) = X
  have HXB : Hid (Below x0.heap.size x0 X) := by show Below x0.heap.size x0 X; rw [← hX]; exact (Below.refl _ _).alloc (Nat.le_refl _) _
  have HB : Hid (Bx5 X x0.heap.size (.bool a) (.slice ps L.length cs) (.bool c) (.int .i64 l) (.int .i64 u)) := by show Bx5 _ _ _ _ _ _ _; rw [← hX]; exact Bx5.new _ _ _ _ _ _ _
  clear hX
  refine (comesBy_impl X B _ P (H.out.later HXB.out) k at_ z C E a _ L c l u (HS.out.later HXB.out)).mono ?_
  rintro e y0 ⟨rfl, hb⟩
  have HY : Hid (Below x0.heap.size x0 y0) := HXB.out.trans (hb.mono HXB.out.size)
  have HBY : Hid (Bx5 y0 x0.heap.size (.bool a) (.slice ps L.length cs) (.bool c) (.int .i64 l) (.int .i64 u)) := HB.out.later hb
  clear hb HXB HB
  cases hc : comesF P k at_ a L (c, l, u)
  · have hout : callsK P k at_ a L (c, l, u) = [] := by unfold callsK; rw [hc]; rfl
    go_wp2_with fail
    go_ret
    exact ⟨_, rfl, by rw [hout]; exact IRow.nil, HY.out⟩
  · obtain ⟨n, m, rfl, rfl, hn, hm, hok, rfl, hst, hL⟩ := comesF_at hc
    have hout : Hid (callsK P n m true L (c, l, u) = callK (P.getD n []) m L) := by show callsK _ _ _ _ _ _ = _; unfold callsK; rw [if_pos hc]; rfl
    have houtb : Hid (callsB P n m = callB (P.getD n []) m) := rfl
    clear hc hst
    have HG : Hid (∀ z' : World, Below y0.heap.size y0 z' → Calls Try.prog 34 #[insF (P.getD n []) m, .agg #[.bool true, .slice ps L.length cs, .bool c, .int .i64 l, .int .i64 u]] z' fun e z2 => ∃ r, e = .returned r ∧ IRow 2 true z2 z'.heap.size z2.heap.size r (callK (P.getD n []) m L).length (callN (callB (P.getD n []) m) (callK (P.getD n []) m L)) ∧ Below z'.heap.size z' z2) :=
      fun zz hz => callsFrom_any zz P n m hn hm hok z C E true _ L c l u ((HS.out.later HY.out).later hz) hL
    clear hL
    generalize callK (P.getD n []) m L = S at HG hout
    generalize callB (P.getD n []) m = SB at HG houtb
    go_wp2_with fail
    refine wp_region_preds (by kernel_rfl) (by kernel_rfl) (by kernel_rfl) (by kernel_rfl) (fun j => [(fun v _ => v = .slice p P.length cap), (fun v _ => v = .int .i64 n), (fun v _ => v = .int .i64 m), (fun v _ => v = insF (P.getD n []) m), (fun v _ => v = .agg #[.bool true, .slice ps L.length cs, .bool c, .int .i64 l, .int .i64 u]), (fun v x => IRow 2 true x y0.heap.size x.heap.size v S.length (callN SB S)), (fun v x => IRow 2 true x y0.heap.size x.heap.size v S.length (callN SB S))].getD j (fun _ _ => True)) ?stable y0 ((Below.refl _ _).drew) ?step (fun V => ⟨List.toArray ((.slice p P.length cap) :: (.int .i64 n) :: (.int .i64 m) :: (.agg #[.bool true, .slice ps L.length cs, .bool c, .int .i64 l, .int .i64 u]) :: (undef) :: (undef) :: (undef) :: (.pointer (some ⟨x0.heap.size, 0, none⟩)) :: (V 6) :: (.slice p P.length cap) :: (.int .i64 n) :: (.int .i64 m) :: (.agg #[.bool true, .slice ps L.length cs, .bool c, .int .i64 l, .int .i64 u]) :: (.bool true) :: (.bool false) :: (V 0) :: (V 1) :: (V 2) :: (V 3) :: (V 4) :: (V 5) :: []), []⟩) (fun V => by kernel_rfl) ?last
    case stable =>
      intro i v x y ht hb
      rcases i with _ | i
      · exact ht
      rcases i with _ | i
      · exact ht
      rcases i with _ | i
      · exact ht
      rcases i with _ | i
      · exact ht
      rcases i with _ | i
      · exact ht
      rcases i with _ | i
      · exact ((IRow.later ht hb).wide (Nat.le_refl _) hb.size (Nat.le_refl _))
      rcases i with _ | i
      · exact ((IRow.later ht hb).wide (Nat.le_refl _) hb.size (Nat.le_refl _))
      exact trivial
    case step =>
      intro i o ho ρ y x hBx hdep hout
      rcases i with _ | i
      · obtain rfl := Option.some.inj ho
        have o0 : ρ (.tmp 0) = .slice p P.length cap := hout (.tmp 0) rfl
        have ocn : ∀ v, ρ (.const v) = v := fun v => hout (.const v) rfl
        have ofn : ∀ f, ρ (.func f) = .func (.func f) #[] #[] := fun f => hout (.func f) rfl
        clear hdep hout
        refine .inl ⟨rfl, ?_⟩
        show GivesP _ _ _ (fun v _ => v = .slice p P.length cap) _
        refine GivesP.val (.slice p P.length cap) rfl ?_
        go_simp
      rcases i with _ | i
      · obtain rfl := Option.some.inj ho
        have o1 : ρ (.tmp 1) = .int .i64 n := hout (.tmp 1) rfl
        have ocn : ∀ v, ρ (.const v) = v := fun v => hout (.const v) rfl
        have ofn : ∀ f, ρ (.func f) = .func (.func f) #[] #[] := fun f => hout (.func f) rfl
        clear hdep hout
        refine .inl ⟨rfl, ?_⟩
        show GivesP _ _ _ (fun v _ => v = .int .i64 n) _
        refine GivesP.val (.int .i64 n) rfl ?_
        go_simp
      rcases i with _ | i
      · obtain rfl := Option.some.inj ho
        have o2 : ρ (.tmp 2) = .int .i64 m := hout (.tmp 2) rfl
        have ocn : ∀ v, ρ (.const v) = v := fun v => hout (.const v) rfl
        have ofn : ∀ f, ρ (.func f) = .func (.func f) #[] #[] := fun f => hout (.func f) rfl
        clear hdep hout
        refine .inl ⟨rfl, ?_⟩
        show GivesP _ _ _ (fun v _ => v = .int .i64 m) _
        refine GivesP.val (.int .i64 m) rfl ?_
        go_simp
      rcases i with _ | i
      · obtain rfl := Option.some.inj ho
        have e0 : ρ (.tmp 15) = .slice p P.length cap := (hdep ⟨0, .data⟩ (by simp) rfl 15 rfl).1
        have e1 : ρ (.tmp 16) = .int .i64 n := (hdep ⟨1, .data⟩ (by simp) rfl 16 rfl).1
        have e2 : ρ (.tmp 17) = .int .i64 m := (hdep ⟨2, .data⟩ (by simp) rfl 17 rfl).1
        have ocn : ∀ v, ρ (.const v) = v := fun v => hout (.const v) rfl
        have ofn : ∀ f, ρ (.func f) = .func (.func f) #[] #[] := fun f => hout (.func f) rfl
        clear hdep hout
        refine .inl ⟨rfl, ?_⟩
        show GivesP _ _ _ (fun v _ => v = insF (P.getD n []) m) _
        refine GivesP.call ((insAt_impl x B _ P ((H.out.later HY.out).later hBx) n m hn (progOkF_len hok).2 hm (progOkF_code hok hn).1).mono fun e w9 h9 => ⟨_, h9.1, rfl, h9.2⟩) ?_
        go_simp
      rcases i with _ | i
      · obtain rfl := Option.some.inj ho
        have o7 : ρ (.tmp 7) = .pointer (some ⟨x0.heap.size, 0, none⟩) := hout (.tmp 7) rfl
        have ocn : ∀ v, ρ (.const v) = v := fun v => hout (.const v) rfl
        have ofn : ∀ f, ρ (.func f) = .func (.func f) #[] #[] := fun f => hout (.func f) rfl
        clear hdep hout
        refine .inl ⟨rfl, ?_⟩
        obtain ⟨_, b0, b1, b2, b3, b4, _⟩ := HBY.out.later hBx
        show GivesP _ _ _ (fun v _ => v = .agg #[.bool true, .slice ps L.length cs, .bool c, .int .i64 l, .int .i64 u]) _
        refine GivesP.val (.agg #[.bool true, .slice ps L.length cs, .bool c, .int .i64 l, .int .i64 u]) rfl ?_
        go_simp
      rcases i with _ | i
      · obtain rfl := Option.some.inj ho
        have e3 : ρ (.tmp 18) = insF (P.getD n []) m := (hdep ⟨3, .data⟩ (by simp) rfl 18 rfl).1
        have e4 : ρ (.tmp 19) = .agg #[.bool true, .slice ps L.length cs, .bool c, .int .i64 l, .int .i64 u] := (hdep ⟨4, .data⟩ (by simp) rfl 19 rfl).1
        have ocn : ∀ v, ρ (.const v) = v := fun v => hout (.const v) rfl
        have ofn : ∀ f, ρ (.func f) = .func (.func f) #[] #[] := fun f => hout (.func f) rfl
        clear hdep hout
        refine .inl ⟨rfl, ?_⟩
        show GivesP _ _ _ (fun v x => IRow 2 true x y0.heap.size x.heap.size v S.length (callN SB S)) _
        refine GivesP.call ((HG.out x hBx).mono fun e w9 h9 => ⟨h9.choose, h9.choose_spec.1, h9.choose_spec.2.1.wide hBx.size (Nat.le_refl _) (Nat.le_refl _), h9.choose_spec.2.2⟩) ?_
        go_simp
      rcases i with _ | i
      · obtain rfl := Option.some.inj ho
        have t5 := (hdep ⟨5, .data⟩ (by simp) rfl 20 rfl).1
        have t5 : (fun v x => IRow 2 true x y0.heap.size x.heap.size v S.length (callN SB S)) (ρ (.tmp 20)) x := t5
        obtain t5 := t5
        have ocn : ∀ v, ρ (.const v) = v := fun v => hout (.const v) rfl
        have ofn : ∀ f, ρ (.func f) = .func (.func f) #[] #[] := fun f => hout (.func f) rfl
        clear hdep hout
        refine .inl ⟨rfl, ?_⟩
        show GivesP _ _ _ (fun v x => IRow 2 true x y0.heap.size x.heap.size v S.length (callN SB S)) _
        exact GivesP.val _ t5 (by go_simp)
      cases ho
    case last =>
      intro V x hBx hV
      have t6 := hV 6 (by simp)
      have t6 : (fun v x => IRow 2 true x y0.heap.size x.heap.size v S.length (callN SB S)) (V 6) x := t6
      obtain t6 := t6
      clear hV
      have hxB := HY.out.trans (hBx.mono HY.out.size)
      have hfin : IRow 2 true x x0.heap.size x.heap.size (V 6) S.length (callN SB S) := t6.wide HY.out.size (Nat.le_refl _) (Nat.le_refl _)
      go_wp2_with fail
      go_ret
      exact ⟨_, rfl, by rw [hout.out, houtb.out]; exact hfin, hxB⟩

end Go.Proofs.Ytbjegekfghihkaa
