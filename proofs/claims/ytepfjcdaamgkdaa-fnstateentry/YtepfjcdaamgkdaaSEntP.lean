/-
  The walk of the law FnStateEntry: a drawn kind.
-/
import Derived.Test.YtepfjcdaamgkdaaSEntL
import Derived.Test.YtepfjcdaamgkdaaSLg
import Derived.Test.YtepfjcdaamgkdaaSHas
import Derived.Test.YtepfjcdaamgkdaaDraw
namespace Go.Proofs.Ytepfjcdaamgkdaa
open Go.RowKit
set_option linter.unusedVariables false
set_option linter.unusedSimpArgs false

theorem drawStateEntry_any (a : Option Addr) (len cap : Nat) (zs : List Int) (w : World) (h : IsRow w a len cap zs) :
    Calls Try.prog 39 #[.slice a len cap] w fun e y => ∃ v : Int, e = .returned (.int .i64 v) ∧ -1 ≤ v ∧ v ≤ 5 ∧ Below w.heap.size w y := by
  go_enter Try.func39, Try.ntmps39
  go_wp2_with fail
  refine (open_any a len cap zs _ h).mono ?_
  rintro e x ⟨rfl, hR, hb⟩
  go_wp2_with fail
  refine (pick_any w.heap.size 0 6 _ hR (by omega) (by omega)).mono ?_
  rintro e y ⟨v, rfl, v0, v1, hD⟩
  go_wp2
  go_ret
  exact ⟨_, rfl, by omega, by omega, hb.trans hD.below⟩

/-- three numbers at the head of a block -/
structure R3 (x : World) (m : Nat) (a b c : Int) : Prop where
  lt : m < x.heap.size
  c0 : x.cell? ⟨m, 0, none⟩ = some (.int .i64 a)
  c1 : x.cell? ⟨m, 1, none⟩ = some (.int .i64 b)
  c2 : x.cell? ⟨m, 2, none⟩ = some (.int .i64 c)
  fz : ∀ k, x.frozen? ⟨m, k, none⟩ = false
theorem R3.new (x : World) (a b c : Int) (t : TypeId) : R3 (x.alloc (.cells #[.int .i64 a, .int .i64 b, .int .i64 c] t)) x.heap.size a b c := ⟨by simp, by simp [go_sem], by simp [go_sem], by simp [go_sem], fun k => by simp [go_sem]⟩
theorem R3.later {x y : World} {m : Nat} {a b c : Int} (h : R3 x m a b c) (hb : Below x.heap.size x y) : R3 y m a b c :=
  ⟨Nat.lt_of_lt_of_le h.lt hb.size, (hb.cell (p := ⟨m, 0, none⟩) h.lt).trans h.c0, (hb.cell (p := ⟨m, 1, none⟩) h.lt).trans h.c1, (hb.cell (p := ⟨m, 2, none⟩) h.lt).trans h.c2, fun k => (hb.frozen (p := ⟨m, k, none⟩) h.lt).trans (h.fz k)⟩
theorem R3.set1 {x : World} {m : Nat} {a b c v : Int} (h : R3 x m a b c) : R3 (x.setCell ⟨m, 1, none⟩ (.int .i64 v)) m a v c := by
  have far : ∀ k, k ≠ 1 → (x.setCell ⟨m, 1, none⟩ (.int .i64 v)).cell? ⟨m, k, none⟩ = x.cell? ⟨m, k, none⟩ := fun k hk => sc_other (by intro e; injection e; omega)
  exact ⟨by simpa using h.lt, (far _ (by omega)).trans h.c0, sc_same h.c1, (far _ (by omega)).trans h.c2, fun k => (World.frozen?_setCell _ _ _ _).trans (h.fz k)⟩
theorem R3.set0 {x : World} {m : Nat} {a b c v : Int} (h : R3 x m a b c) : R3 (x.setCell ⟨m, 0, none⟩ (.int .i64 v)) m v b c := by
  have far : ∀ k, k ≠ 0 → (x.setCell ⟨m, 0, none⟩ (.int .i64 v)).cell? ⟨m, k, none⟩ = x.cell? ⟨m, k, none⟩ := fun k hk => sc_other (by intro e; injection e; omega)
  exact ⟨by simpa using h.lt, sc_same h.c0, (far _ (by omega)).trans h.c1, (far _ (by omega)).trans h.c2, fun k => (World.frozen?_setCell _ _ _ _).trans (h.fz k)⟩
theorem made0 : (madeCells (Value.int .i64 0).cells (3 * 1)).toList[0]? = some (Value.int .i64 0) := by first | kernel_rfl | rfl | simp [madeCells, Value.cells]
theorem made1 : (madeCells (Value.int .i64 0).cells (3 * 1)).toList[1]? = some (Value.int .i64 0) := by first | kernel_rfl | rfl | simp [madeCells, Value.cells]
theorem made2 : (madeCells (Value.int .i64 0).cells (3 * 1)).toList[2]? = some (Value.int .i64 0) := by first | kernel_rfl | rfl | simp [madeCells, Value.cells]
theorem wpList_make3 {w : World} {ops : Array Oper} {rest : List Oper} {o : Oper} {a : Act} {Q : Exit → Act → World → Prop} (hg : o.guard = none) (l c : Operand) (hop : o.op = Op.makeSlice 39 l c)
    (hl : a.eval l = .int .i64 3) (hc : a.eval c = .int .i64 3) (hK : ∀ w', R3 w' w.heap.size 0 0 0 → Below w.heap.size w w' → wpList Try.prog ops Q rest (a.put o.dst (.slice (some ⟨w.heap.size, 0, none⟩) 3 3)) w') : wpList Try.prog ops Q (o :: rest) a w := by
  obtain ⟨i, hi, hz0, hz1, hz2⟩ : ∃ i, Try.prog.info? 3 = some i ∧ i.zero = some (.int .i64 0) ∧ i.size = 1 ∧ i.bytes = 8 := info_parts infoInt
  refine wpList_make_full w hg l c 39 hop w.heap.size 3 i (.int .i64 0) 1 Try.underlying39 hi hz0 hz1 .i64 .i64 3 3 3 hl hc rfl rfl (by rw [hz2]; omega) (by unfold maxLen; omega) (Nat.le_refl _) ?_
  intro w' hown hgr
  exact hK w' ⟨(World.ownsRow.lt hown w.heap.size rfl).2, (World.ownsRow.cellAt hown 0 (by omega)).trans made0, (World.ownsRow.cellAt hown 1 (by omega)).trans made1, (World.ownsRow.cellAt hown 2 (by omega)).trans made2, fun k => World.ownsRow.frozenAt hown k⟩ ((Below.refl _ _).grown hgr (Nat.le_refl _) (fun k hk => by simp at hk))
theorem R3.off {x : World} {m : Nat} {a b c : Int} (h : R3 x m a b c) {d o : Nat} {u : Value} (hd : d ≠ m) : R3 (x.setCell ⟨d, o, none⟩ u) m a b c := by
  have far : ∀ k, (x.setCell ⟨d, o, none⟩ u).cell? ⟨m, k, none⟩ = x.cell? ⟨m, k, none⟩ := fun k => sc_other (by intro e; injection e; omega)
  exact ⟨by simpa using h.lt, (far _).trans h.c0, (far _).trans h.c1, (far _).trans h.c2, fun k => (World.frozen?_setCell _ _ _ _).trans (h.fz k)⟩
theorem R3.ints {x : World} {m : Nat} {a b c : Int} (h : R3 x m a b c) : IntsAt true x m (m + 1) (.slice (some ⟨m, 0, none⟩) 3 3) [a, b, c] := by
  refine ⟨some ⟨m, 0, none⟩, 3, rfl, by unfold maxLen; simp, .inr ⟨m, 0, rfl, Nat.le_refl _, by omega, h.lt, fun _ => h.fz, fun j hj => ?_⟩⟩
  match j, hj with
  | 0, _ => exact h.c0
  | 1, _ => exact h.c1
  | 2, _ => exact h.c2
  | j + 3, hj => exact absurd hj (by simp)

/-- what the law keeps: the program's answer in its box, its spans ahead of it -/
structure EP (w y : World) (m : Nat) (a c : Bool) (l u : Int) (p : Option Addr) (n cap : Nat) (L : List Sp) : Prop where
  below : Below w.heap.size w y
  le : w.heap.size ≤ m
  k : Bx5 y m (.bool a) (.slice p n cap) (.bool c) (.int .i64 l) (.int .i64 u)
  s : SpsAt true y w.heap.size m (.slice p n cap) L
theorem EP.later {w y z : World} {m : Nat} {a c : Bool} {l u : Int} {p : Option Addr} {n cap : Nat} {L : List Sp} (h : EP w y m a c l u p n cap L) (hb : Below y.heap.size y z) : EP w z m a c l u p n cap L :=
  ⟨h.below.trans (hb.mono h.below.size), h.le, h.k.later hb, h.s.later hb⟩
theorem EP.alloc {w y : World} {m : Nat} {a c : Bool} {l u : Int} {p : Option Addr} {n cap : Nat} {L : List Sp} (h : EP w y m a c l u p n cap L) (o : Obj) : EP w (y.alloc o) m a c l u p n cap L := h.later ((Below.refl _ _).alloc (Nat.le_refl _) _)
theorem EP.off {w y : World} {m : Nat} {a c : Bool} {l u : Int} {p : Option Addr} {n cap : Nat} {L : List Sp} (h : EP w y m a c l u p n cap L) {d o : Nat} {v : Value} (hd : m < d) : EP w (y.setCell ⟨d, o, none⟩ v) m a c l u p n cap L :=
  have hl := h.le
  ⟨h.below.setCell (p := ⟨d, o, none⟩) (by show w.heap.size ≤ d; omega) _, hl, h.k.off (by omega), h.s.off (by omega)⟩

theorem ent_true {k : Int} {L : List Sp} {c : Bool} {l u : Int} (h : entF k = (true, L, c, l, u)) : ∃ kl ku, kindF k = (true, kl, ku) ∧ okF true kl ku = true ∧ L = [(true, kl, ku), (true, 0, 0), (true, 0, 0)] ∧ c = true ∧ l = 0 ∧ u = 0 := by
  by_cases h0 : k = 0
  · subst h0; simp [entF, kindF] at h; obtain ⟨rfl, rfl, rfl, rfl⟩ := h; exact ⟨-16, -1, rfl, rfl, rfl, rfl, rfl, rfl⟩
  by_cases h1 : k = 1
  · subst h1; simp [entF, kindF] at h; obtain ⟨rfl, rfl, rfl, rfl⟩ := h; exact ⟨0, 0, rfl, rfl, rfl, rfl, rfl, rfl⟩
  by_cases h2 : k = 2
  · subst h2; simp [entF, kindF] at h; obtain ⟨rfl, rfl, rfl, rfl⟩ := h; exact ⟨1, 15, rfl, rfl, rfl, rfl, rfl, rfl⟩
  · simp [entF, kindF, h0, h1, h2, noSp, noSt] at h
theorem has_yes {kl ku n : Int} (h : okF true kl ku = true) : stHas true [(true, kl, ku), (true, 0, 0), (true, 0, 0)] (true, 0, 0) [n, 0, 0] [0, 0, 0] = hasF true kl ku n := by
  have h0 : okF true 0 0 = true := rfl
  simp [stHas, stOk, someF, regsHas, hasS, hasF, h, h0, List.range_succ]
theorem has_no {kl ku n : Int} : stHas true [(true, kl, ku), (true, 0, 0), (true, 0, 0)] (true, 0, 0) [n, 1, 0] [0, 0, 0] = false := by
  simp [stHas, regsHas, hasS, hasF, List.range_succ]
theorem ok_yes {kl ku : Int} (h : okF true kl ku = true) : stOk true [(true, kl, ku), (true, 0, 0), (true, 0, 0)] (true, 0, 0) = true := by
  have h0 : okF true 0 0 = true := rfl
  simp [stOk, someF, h, h0]

set_option maxRecDepth 100000 in
set_option maxHeartbeats 4000000 in
theorem stateEntry_walk (a : Option Addr) (len cap : Nat) (zs : List Int) (w : World) (h : IsRow w a len cap zs) :
    Calls Try.prog 14 #[.slice a len cap] w fun e w' => e = .returned (.bool true) ∧ Below w.heap.size w w' := by
  have hm : len ≤ maxLen := by
    rcases h with ⟨rfl, rfl, rfl, rfl⟩ | ⟨x, rfl, hl, hm, hz, hcell, hwz⟩
    · unfold maxLen; omega
    · omega
  unfold maxLen at hm
  by_cases hl : (1048576 : Int) < (len : Int)
  · clear h
    go_enter Try.func14, Try.ntmps14
    go_wp2
    go_ret
    exact ⟨rfl, by go_grown⟩
  · go_enter Try.func14, Try.ntmps14
    go_wp2_with fail
    refine (drawStateEntry_any a len cap zs _ h).mono ?_
    rintro e x ⟨k, rfl, k0, k1, hb⟩
    clear h
    obtain ⟨b, L, c, l, u, hF0⟩ : ∃ b L c l u, entF k = (b, L, c, l, u) := ⟨_, _, _, _, _, rfl⟩
    have HF : Hid (entF k = (b, L, c, l, u)) := hF0
    clear hF0
    go_wp2_with fail
    refine (ent_impl_at HF.out _).mono ?_
    rintro e x1 ⟨v1, rfl, hS1, hb1⟩
    obtain ⟨p1, cap1, rfl⟩ := hS1.shape
    have E1 : EP w (x1.alloc (.cells #[.bool b, .slice p1 L.length cap1, .bool c, .int .i64 l, .int .i64 u] 32)) x1.heap.size b c l u p1 L.length cap1 L :=
      have h1 := hb.size
      have h2 := hb1.size
      have hA : Below x1.heap.size x1 (x1.alloc (.cells #[.bool b, .slice p1 L.length cap1, .bool c, .int .i64 l, .int .i64 u] 32)) := (Below.refl _ _).alloc (Nat.le_refl _) _
      ⟨(hb.trans (hb1.mono h1)).trans (hA.mono (by omega)), by omega, Bx5.new _ _ _ _ _ _ _, (hS1.later hA).wide h1 (Nat.le_refl _) (by simp)⟩
    have HE1 : Hid (EP w (x1.alloc (.cells #[.bool b, .slice p1 L.length cap1, .bool c, .int .i64 l, .int .i64 u] 32)) x1.heap.size b c l u p1 L.length cap1 L) := E1
    clear E1 hS1 hb hb1
    go_wp2_with fail
    generalize x1.alloc (.cells #[.bool b, .slice p1 L.length cap1, .bool c, .int .i64 l, .int .i64 u] 32) = X at HE1 ⊢
    have HE2 : Hid (EP w X.drew x1.heap.size b c l u p1 L.length cap1 L) := HE1.out.later ((Below.refl _ _).drew)
    clear HE1
    cases b
    · obtain ⟨t2, d0, d1, d2, d3, d4, df⟩ := HE2.out.k
      go_region_with (first
        | (go_at_call 20; refine (ent_spec_at HF.out _).mono ?_; rintro e x3 ⟨v3, rfl, hS3, hb3⟩
           obtain ⟨p3, cap3, rfl⟩ := hS3.shape
           have HE3 : Hid (EP w x3 x1.heap.size false c l u p1 L.length cap1 L) := HE2.out.later hb3
           obtain ⟨t3, e0, e1, e2, e3, e4, ef⟩ := HE3.out.k)
        | (go_at_call 36; refine (lgState_same _ _ _ _ _ _ _ false _ _ L c l u HE3.out.s hS3).mono ?_; rintro e x4 ⟨rfl, hb4⟩
           have HE4 : Hid (EP w x4 x1.heap.size false c l u p1 L.length cap1 L) := HE3.out.later hb4
           obtain ⟨t4, f0, f1, f2, f3, f4, ff⟩ := HE4.out.k)
        | fail)
      all_goals
        clear hS3 hb3 hb4 HE3 HE2 t2 d0 d1 d2 d3 d4 df t3 e0 e1 e2 e3 e4 ef t4 f0 f1 f2 f3 f4 ff
        go_wp2_with fail
        have HE2 : Hid (EP w x4.drew x1.heap.size false c l u p1 L.length cap1 L) := HE4.out.later ((Below.refl _ _).drew)
        clear HE4
        obtain ⟨t2, d0, d1, d2, d3, d4, df⟩ := HE2.out.k
        go_region_with (first
          | (go_at_call 20; refine (ent_spec_at HF.out _).mono ?_; rintro e x5 ⟨v3, rfl, hS3, hb3⟩
             obtain ⟨p3, cap3, rfl⟩ := hS3.shape
             have HE3 : Hid (EP w x5 x1.heap.size false c l u p1 L.length cap1 L) := HE2.out.later hb3
             obtain ⟨t3, e0, e1, e2, e3, e4, ef⟩ := HE3.out.k)
          | (go_at_call 36; refine (lgState_same _ _ _ _ _ _ _ false _ _ L c l u HE3.out.s hS3).mono ?_; rintro e x6 ⟨rfl, hb4⟩
             have HE4 : Hid (EP w x6 x1.heap.size false c l u p1 L.length cap1 L) := HE3.out.later hb4
             obtain ⟨t4, f0, f1, f2, f3, f4, ff⟩ := HE4.out.k)
          | fail)
        all_goals
          go_wp2_with fail
          go_ret
          exact ⟨rfl, HE4.out.below⟩
    · obtain ⟨t2, d0, d1, d2, d3, d4, df⟩ := HE2.out.k
      go_region_with (first
        | (go_at_call 20; refine (ent_spec_at HF.out _).mono ?_; rintro e x3 ⟨v3, rfl, hS3, hb3⟩
           obtain ⟨p3, cap3, rfl⟩ := hS3.shape
           have HE3 : Hid (EP w x3 x1.heap.size true c l u p1 L.length cap1 L) := HE2.out.later hb3
           obtain ⟨t3, e0, e1, e2, e3, e4, ef⟩ := HE3.out.k)
        | (go_at_call 36; refine (lgState_same _ _ _ _ _ _ _ true _ _ L c l u HE3.out.s hS3).mono ?_; rintro e x4 ⟨rfl, hb4⟩
           have HE4 : Hid (EP w x4 x1.heap.size true c l u p1 L.length cap1 L) := HE3.out.later hb4
           obtain ⟨t4, f0, f1, f2, f3, f4, ff⟩ := HE4.out.k)
        | fail)
      all_goals
        clear hS3 hb3 hb4 HE3 HE2 t2 d0 d1 d2 d3 d4 df t3 e0 e1 e2 e3 e4 ef t4 f0 f1 f2 f3 f4 ff
        obtain ⟨kl, ku, hk, hok, hL, rfl, rfl, rfl⟩ := ent_true HF.out
        have HK : Hid (kindF k = (true, kl, ku) ∧ okF true kl ku = true ∧ L = [(true, kl, ku), (true, 0, 0), (true, 0, 0)]) := ⟨hk, hok, hL⟩
        have hl3 : L.length = 3 := by rw [hL]; rfl
        have HE4 : Hid (EP w x4 x1.heap.size true true 0 0 p1 3 cap1 L) := by have h5 := HE4.out; rw [hl3] at h5; exact h5
        simp only [hl3]
        clear hk hok hL hl3 HF hm hl k0 k1
        go_wp2_with (refine wpList_make3 rfl _ _ rfl rfl rfl ?_)
        intro X5 hR5 hb5
        have HE5 : Hid (EP w X5 x1.heap.size true true 0 0 p1 3 cap1 L ∧ R3 X5 x4.heap.size 0 0 0 ∧ x1.heap.size < x4.heap.size) := ⟨HE4.out.later hb5, hR5, HE4.out.k.lt⟩
        clear HE4 hR5 hb5
        go_wp2_with fail
        generalize hbc : x4.heap.size = bc at HE5 ⊢
        clear hbc
        go_loopw [6] (fun t y => ∃ n : Int, -16 ≤ n ∧ n ≤ 16 ∧ t = .int .i64 n ∧ EP w y x1.heap.size true true 0 0 p1 3 cap1 L ∧ R3 y bc 0 0 0 ∧ x1.heap.size < bc) (fun t _ => (16 - intOf t).toNat)
        case atStart => exact ⟨-16, by omega, by omega, rfl, HE5.out⟩
        case round =>
          clear HE5
          obtain ⟨n, n0, n1, rfl, hE, hC, hbc⟩ := hrel
          by_cases hlt : n ≤ 15
          · obtain ⟨t4, f0, f1, f2, f3, f4, ff⟩ := hE.k
            have hcl := hC.lt
            have HE5 : Hid (EP w wr x1.heap.size true true 0 0 p1 3 cap1 L ∧ R3 wr bc 0 0 0) := ⟨hE, hC⟩
            clear hE hC t4 f0 f1 f2 f3 f4 ff
            go_wp2_with (refine wpList_make3 rfl _ _ rfl rfl rfl ?_)
            intro X7 hR7 hb7
            generalize hbr : wr.heap.size = br at *
            obtain ⟨t4, f0, f1, f2, f3, f4, ff⟩ := (HE5.out.1.later (hbr.symm ▸ hb7)).k
            have HE6 : Hid (EP w (X7.setCell ⟨br, 0, none⟩ (.int .i64 n)) x1.heap.size true true 0 0 p1 3 cap1 L ∧ R3 (X7.setCell ⟨br, 0, none⟩ (.int .i64 n)) bc 0 0 0 ∧ R3 (X7.setCell ⟨br, 0, none⟩ (.int .i64 n)) br n 0 0) := ⟨(HE5.out.1.later (hbr.symm ▸ hb7)).off (by omega), (HE5.out.2.later (hbr.symm ▸ hb7)).off (by omega), hR7.set0⟩
            obtain ⟨tr, g0, g1, g2, gf⟩ := hR7
            clear HE5 hb7
            go_wp2_with fail
            generalize X7.setCell ⟨br, 0, none⟩ (.int .i64 n) = X6 at HE6 ⊢
            clear g0 g1 g2 gf tr t4
            clear f0 f1 f2 f3 f4 ff
            obtain ⟨hE, hC, hR⟩ := HE6.out
            refine (stHas_impl X6 true true true _ _ _ _ _ _ true _ _ _ L true 0 0 [n, 0, 0] [0, 0, 0] hE.s hR.ints hC.ints).mono ?_
            rintro e y1 ⟨rfl, hb1⟩
            have hq : stHas true L (true, 0, 0) [n, 0, 0] [0, 0, 0] = hasF true kl ku n := by rw [HK.out.2.2]; exact has_yes HK.out.2.1
            rw [hq]
            have HE7 : Hid (EP w y1 x1.heap.size true true 0 0 p1 3 cap1 L ∧ R3 y1 bc 0 0 0 ∧ R3 y1 br n 0 0) := ⟨hE.later hb1, hC.later hb1, hR.later hb1⟩
            clear hE hC hR HE6 hb1 hq
            go_wp2_with fail
            refine (kind_impl k _).mono ?_
            rintro e y2 ⟨hs2, hb2⟩
            obtain ⟨a2, l2, u2, hx2, rfl⟩ := hs2.out
            have hxx := HK.out.1.symm.trans hx2.out
            simp only [Prod.mk.injEq] at hxx
            obtain ⟨rfl, rfl, rfl⟩ := hxx
            have HE8 : Hid (EP w y2 x1.heap.size true true 0 0 p1 3 cap1 L ∧ R3 y2 bc 0 0 0 ∧ R3 y2 br n 0 0) := ⟨HE7.out.1.later hb2, HE7.out.2.1.later hb2, HE7.out.2.2.later hb2⟩
            clear hs2 hb2 hx2 HE7
            go_wp2_with fail
            refine (has_impl _ _ _ _ _).mono ?_
            rintro e y3 ⟨rfl, hb3⟩
            have HE9 : Hid (EP w (y3.setCell ⟨br, 1, none⟩ (.int .i64 1)) x1.heap.size true true 0 0 p1 3 cap1 L ∧ R3 (y3.setCell ⟨br, 1, none⟩ (.int .i64 1)) bc 0 0 0 ∧ R3 (y3.setCell ⟨br, 1, none⟩ (.int .i64 1)) br n 1 0) := ⟨(HE8.out.1.later hb3).off (by omega), (HE8.out.2.1.later hb3).off (by omega), (HE8.out.2.2.later hb3).set1⟩
            obtain ⟨t5, f0, f1, f2, f3, f4, ff⟩ := (HE8.out.1.later hb3).k
            obtain ⟨tr, g0, g1, g2, gf⟩ := HE8.out.2.2.later hb3
            clear hb3 HE8
            generalize hasF true kl ku n = bb
            go_wp2_with fail
            generalize y3.setCell ⟨br, 1, none⟩ (.int .i64 1) = X9 at HE9 ⊢
            clear f0 f1 f2 f3 f4 ff g0 g1 g2 gf
            obtain ⟨hE, hC, hR⟩ := HE9.out
            refine (stHas_impl X9 true true true _ _ _ _ _ _ true _ _ _ L true 0 0 [n, 1, 0] [0, 0, 0] hE.s hR.ints hC.ints).mono ?_
            rintro e y4 ⟨rfl, hb4⟩
            have hq : stHas true L (true, 0, 0) [n, 1, 0] [0, 0, 0] = false := by rw [HK.out.2.2]; exact has_no
            rw [hq]
            have HEA : Hid (EP w y4 x1.heap.size true true 0 0 p1 3 cap1 L ∧ R3 y4 bc 0 0 0) := ⟨hE.later hb4, hC.later hb4⟩
            clear hE hC hR HE9 hb4 hq
            go_wp2_with fail
            go_roundw
            case rel => exact ⟨n + 1, by omega, by omega, by go_num, HEA.out.1, HEA.out.2, hbc⟩
            case measure => simp [intOf]; omega
          · obtain rfl : n = 16 := by omega
            obtain ⟨t4, f0, f1, f2, f3, f4, ff⟩ := hE.k
            have HE6 : Hid (EP w wr x1.heap.size true true 0 0 p1 3 cap1 L) := hE
            clear hE hC
            go_wp2_with fail
            refine (stOk_impl wr true _ _ true _ L true 0 0 HE6.out.s).mono ?_
            rintro e y4 ⟨rfl, hb4⟩
            have hq : stOk true L (true, 0, 0) = true := by rw [HK.out.2.2]; exact ok_yes HK.out.2.1
            rw [hq]
            have HEA : Hid (EP w y4 x1.heap.size true true 0 0 p1 3 cap1 L) := HE6.out.later hb4
            clear hb4 HE6 f0 f1 f2 f3 f4 ff
            go_wp2_with fail
            go_ret
            exact ⟨rfl, HEA.out.below⟩

end Go.Proofs.Ytepfjcdaamgkdaa
