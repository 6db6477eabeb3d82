import Derived.Test.YtbjegekfghihkaaB27
/-
  What an instruction may call: the contract of the model's FlowCalls.
-/
namespace Go.Proofs.Ytbjegekfghihkaa
open Go.RowKit
set_option linter.unusedVariables false
set_option linter.unusedSimpArgs false

theorem exec_app {P : Program} {o : Oper} {ρ : Operand → Value} {w w' : World} (s x : Operand) (t : TypeId) (hop : o.op = Op.call { callee := Callee.builtin Builtin.append, args := #[s, x], argTypes := #[t, t] }) {vs vx v' : Value}
    (hs : ρ s = vs) (hx : ρ x = vx) (hrun : (Builtin.append_ #[t, t] o.type #[vs, vx]).run P w = .ok v' w') : (execOp ρ o).run P w = .ok (.value v') w' := by
  simp [execOp, hop, resolve, invoke, builtin, hs, hx, hrun, Result.andThen]
def OwnU (KK : List Int) (v : Value) (x : World) : Prop := ∃ B, Owns x B v KK
theorem OwnU.later {KK : List Int} {v : Value} {x y : World} (h : OwnU KK v x) (hb : Below x.heap.size x y) : OwnU KK v y := by
  obtain ⟨B, h⟩ := h
  exact ⟨B, h.later hb⟩
/-- a new row of one call -/
def OneC (b q : Int) (v : Value) (x : World) : Prop := ∃ g, v = .slice (some ⟨g, 0, none⟩) 1 1 ∧ g < x.heap.size ∧ x.cell? ⟨g, 0, none⟩ = some (.int .i64 b) ∧ x.cell? ⟨g, 1, none⟩ = some (.int .i64 q)
theorem OneC.later {b q : Int} {v : Value} {x y : World} (h : OneC b q v x) (hb : Below x.heap.size x y) : OneC b q v y := by
  obtain ⟨g, e, hg, c0, c1⟩ := h
  exact ⟨g, e, Nat.lt_of_lt_of_le hg hb.size, (hb.cell (p := ⟨g, _, none⟩) hg).trans c0, (hb.cell (p := ⟨g, _, none⟩) hg).trans c1⟩
theorem OneC.new (b q : Int) (x : World) : OneC b q (.slice (some ⟨x.heap.size, 0, none⟩) 1 1) (x.alloc (.cells #[.int .i64 b, .int .i64 q] 78)) :=
  ⟨_, rfl, by simp, by simp [go_sem], by simp [go_sem]⟩
theorem app_one (w : World) (ty : TypeId) (base n : Nat) (v vx : Value) (xs : List Value) (b q : Int) (hown : w.ownsRow base 78 2 v n xs) (hn : n ≤ 100) (hbase : base ≤ w.heap.size) (h1 : OneC b q vx w) :
    ∃ v' w', (Builtin.append_ #[30, 30] ty #[v, vx]).run Try.prog w = .ok v' w' ∧ w'.ownsRow base 78 2 v' (n + 1) (xs ++ [.int .i64 b, .int .i64 q]) ∧ Below base w w' ∧ w.grownBy w' v.ownBlock ∧ (v'.ownBlock = v.ownBlock ∨ v'.ownBlock = some w.heap.size) := by
  obtain ⟨i, hi, hz0, hz1, hz2⟩ := infoCall2
  obtain ⟨g, rfl, hg, c0, c1⟩ := h1
  obtain ⟨v', w', hr, h2, h3, h4, h5⟩ := run_append_own_at (P := Try.prog) w base 30 ty 78 i (.agg #[.int .i64 0, .int .i64 0]) 2 16 Try.underlying30 hi hz0 hz1 hz2 rfl (by omega) v n xs hown ⟨g, 0, none⟩ 1 1 [.int .i64 b, .int .i64 q] rfl
    (by
      intro j u hu
      rw [Addr.add_mid]
      match j, hu with
      | 0, hu => obtain rfl : Value.int .i64 b = u := by simpa using hu
                 exact c0
      | 1, hu => obtain rfl : Value.int .i64 q = u := by simpa using hu
                 exact c1
      | j + 2, hu => simp at hu)
    (by intro u hu; simp at hu; rcases hu with rfl | rfl <;> rfl) (by unfold maxLen; omega) (by omega) hbase
  exact ⟨v', w', hr, h2, (Below.refl base w).grown h3 hbase (fun k hk => (hown.lt k hk).1), h3, h5⟩
theorem ownsC_later {x y : World} {base size n : Nat} {e : TypeId} {v : Value} {xs : List Value} (h : x.ownsRow base e size v n xs) (hb : Below x.heap.size x y) : y.ownsRow base e size v n xs :=
  World.ownsRow.kept h (row := none) ⟨hb.os, hb.tape, hb.output, hb.size, fun k hk _ => hb.block k hk⟩ (by cases hv : v.ownBlock <;> simp)

set_option maxRecDepth 100000 in
set_option maxHeartbeats 4000000 in
theorem l12Called_none (x0 : World) (v : Value) (n m : Int) (s : Value) (c : Bool) (l u : Int) :
    Calls Try.prog 29 #[v, .int .i64 n, .int .i64 m, .agg #[.bool false, s, .bool c, .int .i64 l, .int .i64 u]] x0 fun e y => ∃ r, e = .returned r ∧ (∀ N, IRow 2 true y x0.heap.size y.heap.size r 0 N) ∧ Below x0.heap.size x0 y := by
  go_enter Try.func29, Try.ntmps29
  go_wp2_with fail
  go_ret
  exact ⟨_, rfl, fun N => IRow.nil, by first | exact ((Below.refl _ _).alloc (Nat.le_refl _) _).alloc (by simp) _ | go_grown⟩

set_option maxRecDepth 100000 in
set_option maxHeartbeats 8000000 in
theorem l12Called_any (x0 : World) (B : Nat) (v : Value) (P : List (List I4)) (h : ProgAt x0 B v P) (n m : Nat) (hn : n < P.length) (hm : m ≤ (P.getD n []).length) (hok : progOkF P = true) (z : Bool) (C E : Nat) (s : Value) (L : List Sp) (c : Bool) (l u : Int) (hs : SpsAt z x0 C E s L) (hL : L.length = 3) :
    Calls Try.prog 29 #[v, .int .i64 n, .int .i64 m, .agg #[.bool true, s, .bool c, .int .i64 l, .int .i64 u]] x0 fun e y => ∃ r, e = .returned r ∧ IRow 2 true y x0.heap.size y.heap.size r (callK (P.getD n []) m L).length (callN (callB (P.getD n []) m) (callK (P.getD n []) m L)) ∧ Below x0.heap.size x0 y := by
  obtain ⟨p, cap, rfl, _⟩ := h.shape
  obtain ⟨ps, cs, rfl⟩ := hs.shape
  rw [hL] at hs ⊢
  obtain ⟨g, o, rfl, hg, hq⟩ := hs.threeF hL
  have HQ : Hid (Rg3 x0 g o L) := ⟨hg, hq⟩
  obtain ⟨g2, o2, uu, rfl, hg2, hu, hc⟩ := h.code hn
  obtain ⟨pk, ck, rfl, _⟩ := hc.shape
  have HC : Hid (CodeAt x0 B (.slice pk (P.getD n []).length ck) (P.getD n [])) := hc
  have hl4 := (progOkF_len hok).2
  have h8 := (progOkF_code hok hn).1
  have hins := (progOkF_code hok hn).2 m
  have hni : (n : Int) < (P.length : Int) := by omega
  have hpi : (P.length : Int) ≤ 4 := by omega
  have hci : ((P.getD n []).length : Int) ≤ 8 := by omega
  have hmi : (m : Int) ≤ ((P.getD n []).length : Int) := by omega
  have hg21 : g2 < x0.heap.size + 1 := by omega
  have hg22 : g2 < x0.heap.size + 1 + 1 := by omega
  have HPL : Hid (P.length = P.length) := rfl
  clear hc h hs hq
  by_cases he : m = (P.getD n []).length
  · have HK : Hid (callK (P.getD n []) m L = []) := by show callK _ _ _ = _; simp only [callK]; rw [if_pos he]
    have heb : ((m : Int) == ((P.getD n []).length : Int)) = true := by rw [he]; simp
    generalize callK (P.getD n []) m L = KK at HK ⊢
    generalize callB (P.getD n []) m = SB
    clear hins HC HQ hn hm hok
    generalize (P.getD n []).length = cl at *
    generalize P.length = pn at *
    go_enter Try.func29, Try.ntmps29
    go_wp2_with fail
    go_ret
    exact ⟨_, rfl, by rw [HK.out]; exact IRow.nil, by first | exact ((Below.refl _ _).alloc (Nat.le_refl _) _).alloc (by simp) _ | go_grown⟩
  · obtain ⟨g3, o3, rfl, hg3, q0, q1, q2, q3⟩ := HC.out.ins (j := m) (by omega)
    have hlt : m < (P.getD n []).length := by omega
    have hio := hins hlt
    have hmlt : (m : Int) < ((P.getD n []).length : Int) := by omega
    have heb : ((m : Int) == ((P.getD n []).length : Int)) = false := by
      have : ¬ (m : Int) = ((P.getD n []).length : Int) := by omega
      exact beq_false_of_ne this
    have HK : Hid (callK (P.getD n []) m L = (if ((P.getD n []).getD m i0).1 = 8 then kindsAt (L.getD ((P.getD n []).getD m i0).2.2.2.toNat noSp) else [])) := by show callK _ _ _ = _; simp only [callK]; rw [if_neg he]
    have HSB : Hid (callB (P.getD n []) m = ((P.getD n []).getD m i0).2.2.1) := rfl
    have hg31 : g3 < x0.heap.size + 1 := by omega
    have hg32 : g3 < x0.heap.size + 1 + 1 := by omega
    generalize callK (P.getD n []) m L = KK at HK ⊢
    generalize callB (P.getD n []) m = SB at HSB ⊢
    generalize (P.getD n []).getD m i0 = I at *
    clear hins HC hn hm hok he hlt
    generalize (P.getD n []).length = cl at *
    generalize P.length = pn at *
    obtain ⟨K, A, B', C'⟩ := I
    simp only at HK HSB q0 q1 q2 q3
    by_cases h8k : K = 8
    · subst h8k
      obtain ⟨r0, r2⟩ := insOkF_call hio rfl
      simp only at r0 r2
      obtain ⟨r, rfl⟩ : ∃ r : Nat, C' = r := ⟨C'.toNat, by omega⟩
      have hr3 : r < 3 := by omega
      have hri : (r : Int) < 3 := by omega
      have HK2 : Hid (KK = kindsAt (L.getD r noSp)) := by show KK = _; rw [HK.out, if_pos rfl]; rfl
      have HSP : Hid (Spn x0 g (o + r * 3) (L.getD r noSp)) := HQ.out.2 r hr3
      clear HK r0 r2 hio hL HQ
      generalize L.getD r noSp = S at HK2 HSP
      obtain ⟨s1, s2, s3⟩ := S
      have HKC : Hid (∀ z : World, Calls Try.prog 59 #[.agg #[.bool s1, .int .i64 s2, .int .i64 s3]] z fun e y => ∃ v, e = .returned v ∧ Owns y (z.heap.size + 1) v KK ∧ Below z.heap.size z y) := fun z => by have := kinds_spec s1 s2 s3 z; rw [HK2.out]; exact this
      have hlen : KK.length ≤ 3 := by rw [HK2.out]; exact KL_len _ _ _ _
      clear HK2
      have HSB2 : Hid (SB = B') := HSB
      clear HSB
      go_enter Try.func29, Try.ntmps29
      go_wp2_with fail
      generalize hX : (x0.alloc (.cells #[.bool true, .slice (some ⟨g, o, none⟩) 3 cs, .bool c, .int .i64 l, .int .i64 u] 37)).alloc (.cells #[] 78) = X
      have HXB : Hid (Below x0.heap.size x0 X) := by show Below _ _ _; rw [← hX]; exact ((Below.refl _ _).alloc (Nat.le_refl _) _).alloc (by simp) _
      have HBX : Hid (X.cell? ⟨x0.heap.size, 1, none⟩ = some (.slice (some ⟨g, o, none⟩) 3 cs) ∧ x0.heap.size + 1 < X.heap.size) := by show _ ∧ _; rw [← hX]; exact ⟨by simp [go_sem], by simp⟩
      have HOW : Hid (X.ownsRow (x0.heap.size + 1) 78 2 (.slice (some ⟨x0.heap.size + 1, 0, none⟩) 0 0) 0 []) := by
        show World.ownsRow _ _ _ _ _ _ _
        rw [← hX]
        have := World.ownsRow_lit (base := x0.heap.size + 1) (e := 78) (size := 2) (x0.alloc (.cells #[.bool true, .slice (some ⟨g, o, none⟩) 3 cs, .bool c, .int .i64 l, .int .i64 u] 37)) #[] 0 (by simp) (by unfold maxLen; omega) rfl
        simpa using this
      clear hX
      refine wp_region_preds (by kernel_rfl) (by kernel_rfl) (by kernel_rfl) (by kernel_rfl) (fun j => [(fun v _ => v = .pointer (some ⟨x0.heap.size, 1, none⟩)), (fun v _ => v = .slice (some ⟨g, o, none⟩) 3 cs), (fun v _ => v = .slice (some ⟨g2, o2, none⟩) pn cap), (fun v _ => v = .int .i64 ↑n), (fun v _ => v = .pointer (some ⟨g2, o2 + n, none⟩)), (fun v _ => v = .pointer (some ⟨g2, o2 + n, none⟩)), (fun v _ => v = .slice (some ⟨g3, o3, none⟩) cl ck), (fun v _ => v = .int .i64 ↑m), (fun v _ => v = .pointer (some ⟨g3, o3 + m * 4, none⟩)), (fun v _ => v = .pointer (some ⟨g3, o3 + m * 4 + 3, none⟩)), (fun v _ => v = .int .i64 r), (fun v _ => v = .pointer (some ⟨g, o + r * 3, none⟩)), (fun v _ => v = .agg #[.bool s1, .int .i64 s2, .int .i64 s3]), (fun v x => Owns x (X.heap.size + 1) v KK), (fun v x => Owns x (X.heap.size + 1) v KK)].getD j (fun _ _ => True)) ?stable X ((Below.refl _ _).drew) ?step (fun V => ⟨List.toArray ((.slice (some ⟨g2, o2, none⟩) pn cap) :: (.int .i64 ↑n) :: (.int .i64 ↑m) :: (.agg #[.bool true, .slice (some ⟨g, o, none⟩) 3 cs, .bool c, .int .i64 l, .int .i64 u]) :: (undef) :: (undef) :: (undef) :: (.pointer (some ⟨x0.heap.size, 0, none⟩)) :: (.slice none 0 0) :: (.slice (some ⟨x0.heap.size + 1, 0, none⟩) 0 0) :: (V 14) :: (undef) :: (.slice (some ⟨x0.heap.size + 1, 0, none⟩) 0 0) :: (.pointer (some ⟨x0.heap.size, 0, none⟩)) :: (.bool true) :: (.bool false) :: (.bool false) :: (.int .i64 ↑m) :: (.slice (some ⟨g2, o2, none⟩) pn cap) :: (.int .i64 ↑n) :: (.pointer (some ⟨g2, o2 + n, none⟩)) :: (.pointer (some ⟨g2, o2 + n, none⟩)) :: (.slice (some ⟨g3, o3, none⟩) cl ck) :: (.int .i64 ↑cl) :: (.bool false) :: (.bool false) :: (.bool false) :: (.slice (some ⟨g2, o2, none⟩) pn cap) :: (.int .i64 ↑n) :: (.pointer (some ⟨g2, o2 + n, none⟩)) :: (.pointer (some ⟨g2, o2 + n, none⟩)) :: (.slice (some ⟨g3, o3, none⟩) cl ck) :: (.int .i64 ↑m) :: (.pointer (some ⟨g3, o3 + m * 4, none⟩)) :: (.pointer (some ⟨g3, o3 + m * 4, none⟩)) :: (.int .i64 8) :: (.bool false) :: (.bool false) :: (undef) :: (V 0) :: (V 1) :: (V 2) :: (V 3) :: (V 4) :: (V 5) :: (V 6) :: (V 7) :: (V 8) :: (V 9) :: (V 10) :: (V 11) :: (V 12) :: (V 13) :: (undef) :: (undef) :: (undef) :: (undef) :: (undef) :: (undef) :: (undef) :: (undef) :: (undef) :: (undef) :: (undef) :: (undef) :: (undef) :: (undef) :: (undef) :: (undef) :: (undef) :: (undef) :: (undef) :: (undef) :: (undef) :: (undef) :: (undef) :: (undef) :: []), []⟩) (fun V => by kernel_rfl) ?last
      case stable =>
        intro i v x y ht hb
        rcases i with _ | i
        · exact ht
        rcases i with _ | i
        · exact ht
        rcases i with _ | i
        · exact ht
        rcases i with _ | i
        · exact ht
        rcases i with _ | i
        · exact ht
        rcases i with _ | i
        · exact ht
        rcases i with _ | i
        · exact ht
        rcases i with _ | i
        · exact ht
        rcases i with _ | i
        · exact ht
        rcases i with _ | i
        · exact ht
        rcases i with _ | i
        · exact ht
        rcases i with _ | i
        · exact ht
        rcases i with _ | i
        · exact ht
        rcases i with _ | i
        · exact (Owns.later ht hb)
        rcases i with _ | i
        · exact (Owns.later ht hb)
        exact trivial
      case step =>
        intro i o ho ρ y x hBx hdep hout
        rcases i with _ | i
        · obtain rfl := Option.some.inj ho
          have o7 : ρ (.tmp 7) = .pointer (some ⟨x0.heap.size, 0, none⟩) := hout (.tmp 7) rfl
          have ocn : ∀ v, ρ (.const v) = v := fun v => hout (.const v) rfl
          have ofn : ∀ f, ρ (.func f) = .func (.func f) #[] #[] := fun f => hout (.func f) rfl
          clear hdep hout
          refine .inl ⟨rfl, ?_⟩
          have hbz := HXB.out.trans (hBx.mono HXB.out.size)
          have hst := (hBx.cell (p := ⟨x0.heap.size, 1, none⟩) (Nat.lt_trans (Nat.lt_succ_self _) HBX.out.2)).trans HBX.out.1
          have hsl : x0.heap.size < x.heap.size := Nat.lt_of_lt_of_le (Nat.lt_trans (Nat.lt_succ_self _) HBX.out.2) hBx.size
          have hcu := (hbz.cell (p := ⟨g2, o2 + n, none⟩) hg2).trans hu
          have j0 := (hbz.cell (p := ⟨g3, o3 + m * 4, none⟩) hg3).trans q0
          have j1 := (hbz.cell (p := ⟨g3, o3 + m * 4 + 1, none⟩) hg3).trans q1
          have j2 := (hbz.cell (p := ⟨g3, o3 + m * 4 + 2, none⟩) hg3).trans q2
          have j3 := (hbz.cell (p := ⟨g3, o3 + m * 4 + 3, none⟩) hg3).trans q3
          obtain ⟨y0, y1, y2⟩ := HSP.out.later hbz hg
          show GivesP _ _ _ (fun v _ => v = .pointer (some ⟨x0.heap.size, 1, none⟩)) _
          refine GivesP.val (.pointer (some ⟨x0.heap.size, 1, none⟩)) rfl ?_
          go_simp
        rcases i with _ | i
        · obtain rfl := Option.some.inj ho
          have e0 : ρ (.tmp 39) = .pointer (some ⟨x0.heap.size, 1, none⟩) := (hdep ⟨0, .data⟩ (by simp) rfl 39 rfl).1
          have ocn : ∀ v, ρ (.const v) = v := fun v => hout (.const v) rfl
          have ofn : ∀ f, ρ (.func f) = .func (.func f) #[] #[] := fun f => hout (.func f) rfl
          clear hdep hout
          refine .inl ⟨rfl, ?_⟩
          have hbz := HXB.out.trans (hBx.mono HXB.out.size)
          have hst := (hBx.cell (p := ⟨x0.heap.size, 1, none⟩) (Nat.lt_trans (Nat.lt_succ_self _) HBX.out.2)).trans HBX.out.1
          have hsl : x0.heap.size < x.heap.size := Nat.lt_of_lt_of_le (Nat.lt_trans (Nat.lt_succ_self _) HBX.out.2) hBx.size
          have hcu := (hbz.cell (p := ⟨g2, o2 + n, none⟩) hg2).trans hu
          have j0 := (hbz.cell (p := ⟨g3, o3 + m * 4, none⟩) hg3).trans q0
          have j1 := (hbz.cell (p := ⟨g3, o3 + m * 4 + 1, none⟩) hg3).trans q1
          have j2 := (hbz.cell (p := ⟨g3, o3 + m * 4 + 2, none⟩) hg3).trans q2
          have j3 := (hbz.cell (p := ⟨g3, o3 + m * 4 + 3, none⟩) hg3).trans q3
          obtain ⟨y0, y1, y2⟩ := HSP.out.later hbz hg
          show GivesP _ _ _ (fun v _ => v = .slice (some ⟨g, o, none⟩) 3 cs) _
          refine GivesP.val (.slice (some ⟨g, o, none⟩) 3 cs) rfl ?_
          go_simp
        rcases i with _ | i
        · obtain rfl := Option.some.inj ho
          have o0 : ρ (.tmp 0) = .slice (some ⟨g2, o2, none⟩) pn cap := hout (.tmp 0) rfl
          have ocn : ∀ v, ρ (.const v) = v := fun v => hout (.const v) rfl
          have ofn : ∀ f, ρ (.func f) = .func (.func f) #[] #[] := fun f => hout (.func f) rfl
          clear hdep hout
          refine .inl ⟨rfl, ?_⟩
          show GivesP _ _ _ (fun v _ => v = .slice (some ⟨g2, o2, none⟩) pn cap) _
          refine GivesP.val (.slice (some ⟨g2, o2, none⟩) pn cap) rfl ?_
          go_simp
        rcases i with _ | i
        · obtain rfl := Option.some.inj ho
          have o1 : ρ (.tmp 1) = .int .i64 ↑n := hout (.tmp 1) rfl
          have ocn : ∀ v, ρ (.const v) = v := fun v => hout (.const v) rfl
          have ofn : ∀ f, ρ (.func f) = .func (.func f) #[] #[] := fun f => hout (.func f) rfl
          clear hdep hout
          refine .inl ⟨rfl, ?_⟩
          show GivesP _ _ _ (fun v _ => v = .int .i64 ↑n) _
          refine GivesP.val (.int .i64 ↑n) rfl ?_
          go_simp
        rcases i with _ | i
        · obtain rfl := Option.some.inj ho
          have e2 : ρ (.tmp 41) = .slice (some ⟨g2, o2, none⟩) pn cap := (hdep ⟨2, .data⟩ (by simp) rfl 41 rfl).1
          have e3 : ρ (.tmp 42) = .int .i64 ↑n := (hdep ⟨3, .data⟩ (by simp) rfl 42 rfl).1
          have ocn : ∀ v, ρ (.const v) = v := fun v => hout (.const v) rfl
          have ofn : ∀ f, ρ (.func f) = .func (.func f) #[] #[] := fun f => hout (.func f) rfl
          clear hdep hout
          refine .inl ⟨rfl, ?_⟩
          have hbz := HXB.out.trans (hBx.mono HXB.out.size)
          have hst := (hBx.cell (p := ⟨x0.heap.size, 1, none⟩) (Nat.lt_trans (Nat.lt_succ_self _) HBX.out.2)).trans HBX.out.1
          have hsl : x0.heap.size < x.heap.size := Nat.lt_of_lt_of_le (Nat.lt_trans (Nat.lt_succ_self _) HBX.out.2) hBx.size
          have hcu := (hbz.cell (p := ⟨g2, o2 + n, none⟩) hg2).trans hu
          have j0 := (hbz.cell (p := ⟨g3, o3 + m * 4, none⟩) hg3).trans q0
          have j1 := (hbz.cell (p := ⟨g3, o3 + m * 4 + 1, none⟩) hg3).trans q1
          have j2 := (hbz.cell (p := ⟨g3, o3 + m * 4 + 2, none⟩) hg3).trans q2
          have j3 := (hbz.cell (p := ⟨g3, o3 + m * 4 + 3, none⟩) hg3).trans q3
          obtain ⟨y0, y1, y2⟩ := HSP.out.later hbz hg
          show GivesP _ _ _ (fun v _ => v = .pointer (some ⟨g2, o2 + n, none⟩)) _
          refine GivesP.val (.pointer (some ⟨g2, o2 + n, none⟩)) rfl ?_
          go_simp
        rcases i with _ | i
        · obtain rfl := Option.some.inj ho
          have e4 : ρ (.tmp 43) = .pointer (some ⟨g2, o2 + n, none⟩) := (hdep ⟨4, .data⟩ (by simp) rfl 43 rfl).1
          have ocn : ∀ v, ρ (.const v) = v := fun v => hout (.const v) rfl
          have ofn : ∀ f, ρ (.func f) = .func (.func f) #[] #[] := fun f => hout (.func f) rfl
          clear hdep hout
          refine .inl ⟨rfl, ?_⟩
          have hbz := HXB.out.trans (hBx.mono HXB.out.size)
          have hst := (hBx.cell (p := ⟨x0.heap.size, 1, none⟩) (Nat.lt_trans (Nat.lt_succ_self _) HBX.out.2)).trans HBX.out.1
          have hsl : x0.heap.size < x.heap.size := Nat.lt_of_lt_of_le (Nat.lt_trans (Nat.lt_succ_self _) HBX.out.2) hBx.size
          have hcu := (hbz.cell (p := ⟨g2, o2 + n, none⟩) hg2).trans hu
          have j0 := (hbz.cell (p := ⟨g3, o3 + m * 4, none⟩) hg3).trans q0
          have j1 := (hbz.cell (p := ⟨g3, o3 + m * 4 + 1, none⟩) hg3).trans q1
          have j2 := (hbz.cell (p := ⟨g3, o3 + m * 4 + 2, none⟩) hg3).trans q2
          have j3 := (hbz.cell (p := ⟨g3, o3 + m * 4 + 3, none⟩) hg3).trans q3
          obtain ⟨y0, y1, y2⟩ := HSP.out.later hbz hg
          show GivesP _ _ _ (fun v _ => v = .pointer (some ⟨g2, o2 + n, none⟩)) _
          refine GivesP.val (.pointer (some ⟨g2, o2 + n, none⟩)) rfl ?_
          go_simp
        rcases i with _ | i
        · obtain rfl := Option.some.inj ho
          have e5 : ρ (.tmp 44) = .pointer (some ⟨g2, o2 + n, none⟩) := (hdep ⟨5, .data⟩ (by simp) rfl 44 rfl).1
          have ocn : ∀ v, ρ (.const v) = v := fun v => hout (.const v) rfl
          have ofn : ∀ f, ρ (.func f) = .func (.func f) #[] #[] := fun f => hout (.func f) rfl
          clear hdep hout
          refine .inl ⟨rfl, ?_⟩
          have hbz := HXB.out.trans (hBx.mono HXB.out.size)
          have hst := (hBx.cell (p := ⟨x0.heap.size, 1, none⟩) (Nat.lt_trans (Nat.lt_succ_self _) HBX.out.2)).trans HBX.out.1
          have hsl : x0.heap.size < x.heap.size := Nat.lt_of_lt_of_le (Nat.lt_trans (Nat.lt_succ_self _) HBX.out.2) hBx.size
          have hcu := (hbz.cell (p := ⟨g2, o2 + n, none⟩) hg2).trans hu
          have j0 := (hbz.cell (p := ⟨g3, o3 + m * 4, none⟩) hg3).trans q0
          have j1 := (hbz.cell (p := ⟨g3, o3 + m * 4 + 1, none⟩) hg3).trans q1
          have j2 := (hbz.cell (p := ⟨g3, o3 + m * 4 + 2, none⟩) hg3).trans q2
          have j3 := (hbz.cell (p := ⟨g3, o3 + m * 4 + 3, none⟩) hg3).trans q3
          obtain ⟨y0, y1, y2⟩ := HSP.out.later hbz hg
          show GivesP _ _ _ (fun v _ => v = .slice (some ⟨g3, o3, none⟩) cl ck) _
          refine GivesP.val (.slice (some ⟨g3, o3, none⟩) cl ck) rfl ?_
          go_simp
        rcases i with _ | i
        · obtain rfl := Option.some.inj ho
          have o2 : ρ (.tmp 2) = .int .i64 ↑m := hout (.tmp 2) rfl
          have ocn : ∀ v, ρ (.const v) = v := fun v => hout (.const v) rfl
          have ofn : ∀ f, ρ (.func f) = .func (.func f) #[] #[] := fun f => hout (.func f) rfl
          clear hdep hout
          refine .inl ⟨rfl, ?_⟩
          show GivesP _ _ _ (fun v _ => v = .int .i64 ↑m) _
          refine GivesP.val (.int .i64 ↑m) rfl ?_
          go_simp
        rcases i with _ | i
        · obtain rfl := Option.some.inj ho
          have e6 : ρ (.tmp 45) = .slice (some ⟨g3, o3, none⟩) cl ck := (hdep ⟨6, .data⟩ (by simp) rfl 45 rfl).1
          have e7 : ρ (.tmp 46) = .int .i64 ↑m := (hdep ⟨7, .data⟩ (by simp) rfl 46 rfl).1
          have ocn : ∀ v, ρ (.const v) = v := fun v => hout (.const v) rfl
          have ofn : ∀ f, ρ (.func f) = .func (.func f) #[] #[] := fun f => hout (.func f) rfl
          clear hdep hout
          refine .inl ⟨rfl, ?_⟩
          have hbz := HXB.out.trans (hBx.mono HXB.out.size)
          have hst := (hBx.cell (p := ⟨x0.heap.size, 1, none⟩) (Nat.lt_trans (Nat.lt_succ_self _) HBX.out.2)).trans HBX.out.1
          have hsl : x0.heap.size < x.heap.size := Nat.lt_of_lt_of_le (Nat.lt_trans (Nat.lt_succ_self _) HBX.out.2) hBx.size
          have hcu := (hbz.cell (p := ⟨g2, o2 + n, none⟩) hg2).trans hu
          have j0 := (hbz.cell (p := ⟨g3, o3 + m * 4, none⟩) hg3).trans q0
          have j1 := (hbz.cell (p := ⟨g3, o3 + m * 4 + 1, none⟩) hg3).trans q1
          have j2 := (hbz.cell (p := ⟨g3, o3 + m * 4 + 2, none⟩) hg3).trans q2
          have j3 := (hbz.cell (p := ⟨g3, o3 + m * 4 + 3, none⟩) hg3).trans q3
          obtain ⟨y0, y1, y2⟩ := HSP.out.later hbz hg
          show GivesP _ _ _ (fun v _ => v = .pointer (some ⟨g3, o3 + m * 4, none⟩)) _
          refine GivesP.val (.pointer (some ⟨g3, o3 + m * 4, none⟩)) rfl ?_
          go_simp
        rcases i with _ | i
        · obtain rfl := Option.some.inj ho
          have e8 : ρ (.tmp 47) = .pointer (some ⟨g3, o3 + m * 4, none⟩) := (hdep ⟨8, .data⟩ (by simp) rfl 47 rfl).1
          have ocn : ∀ v, ρ (.const v) = v := fun v => hout (.const v) rfl
          have ofn : ∀ f, ρ (.func f) = .func (.func f) #[] #[] := fun f => hout (.func f) rfl
          clear hdep hout
          refine .inl ⟨rfl, ?_⟩
          have hbz := HXB.out.trans (hBx.mono HXB.out.size)
          have hst := (hBx.cell (p := ⟨x0.heap.size, 1, none⟩) (Nat.lt_trans (Nat.lt_succ_self _) HBX.out.2)).trans HBX.out.1
          have hsl : x0.heap.size < x.heap.size := Nat.lt_of_lt_of_le (Nat.lt_trans (Nat.lt_succ_self _) HBX.out.2) hBx.size
          have hcu := (hbz.cell (p := ⟨g2, o2 + n, none⟩) hg2).trans hu
          have j0 := (hbz.cell (p := ⟨g3, o3 + m * 4, none⟩) hg3).trans q0
          have j1 := (hbz.cell (p := ⟨g3, o3 + m * 4 + 1, none⟩) hg3).trans q1
          have j2 := (hbz.cell (p := ⟨g3, o3 + m * 4 + 2, none⟩) hg3).trans q2
          have j3 := (hbz.cell (p := ⟨g3, o3 + m * 4 + 3, none⟩) hg3).trans q3
          obtain ⟨y0, y1, y2⟩ := HSP.out.later hbz hg
          show GivesP _ _ _ (fun v _ => v = .pointer (some ⟨g3, o3 + m * 4 + 3, none⟩)) _
          refine GivesP.val (.pointer (some ⟨g3, o3 + m * 4 + 3, none⟩)) rfl ?_
          go_simp
        rcases i with _ | i
        · obtain rfl := Option.some.inj ho
          have e9 : ρ (.tmp 48) = .pointer (some ⟨g3, o3 + m * 4 + 3, none⟩) := (hdep ⟨9, .data⟩ (by simp) rfl 48 rfl).1
          have ocn : ∀ v, ρ (.const v) = v := fun v => hout (.const v) rfl
          have ofn : ∀ f, ρ (.func f) = .func (.func f) #[] #[] := fun f => hout (.func f) rfl
          clear hdep hout
          refine .inl ⟨rfl, ?_⟩
          have hbz := HXB.out.trans (hBx.mono HXB.out.size)
          have hst := (hBx.cell (p := ⟨x0.heap.size, 1, none⟩) (Nat.lt_trans (Nat.lt_succ_self _) HBX.out.2)).trans HBX.out.1
          have hsl : x0.heap.size < x.heap.size := Nat.lt_of_lt_of_le (Nat.lt_trans (Nat.lt_succ_self _) HBX.out.2) hBx.size
          have hcu := (hbz.cell (p := ⟨g2, o2 + n, none⟩) hg2).trans hu
          have j0 := (hbz.cell (p := ⟨g3, o3 + m * 4, none⟩) hg3).trans q0
          have j1 := (hbz.cell (p := ⟨g3, o3 + m * 4 + 1, none⟩) hg3).trans q1
          have j2 := (hbz.cell (p := ⟨g3, o3 + m * 4 + 2, none⟩) hg3).trans q2
          have j3 := (hbz.cell (p := ⟨g3, o3 + m * 4 + 3, none⟩) hg3).trans q3
          obtain ⟨y0, y1, y2⟩ := HSP.out.later hbz hg
          show GivesP _ _ _ (fun v _ => v = .int .i64 r) _
          refine GivesP.val (.int .i64 r) rfl ?_
          go_simp
        rcases i with _ | i
        · obtain rfl := Option.some.inj ho
          have e1 : ρ (.tmp 40) = .slice (some ⟨g, o, none⟩) 3 cs := (hdep ⟨1, .data⟩ (by simp) rfl 40 rfl).1
          have e10 : ρ (.tmp 49) = .int .i64 r := (hdep ⟨10, .data⟩ (by simp) rfl 49 rfl).1
          have ocn : ∀ v, ρ (.const v) = v := fun v => hout (.const v) rfl
          have ofn : ∀ f, ρ (.func f) = .func (.func f) #[] #[] := fun f => hout (.func f) rfl
          clear hdep hout
          refine .inl ⟨rfl, ?_⟩
          have hbz := HXB.out.trans (hBx.mono HXB.out.size)
          have hst := (hBx.cell (p := ⟨x0.heap.size, 1, none⟩) (Nat.lt_trans (Nat.lt_succ_self _) HBX.out.2)).trans HBX.out.1
          have hsl : x0.heap.size < x.heap.size := Nat.lt_of_lt_of_le (Nat.lt_trans (Nat.lt_succ_self _) HBX.out.2) hBx.size
          have hcu := (hbz.cell (p := ⟨g2, o2 + n, none⟩) hg2).trans hu
          have j0 := (hbz.cell (p := ⟨g3, o3 + m * 4, none⟩) hg3).trans q0
          have j1 := (hbz.cell (p := ⟨g3, o3 + m * 4 + 1, none⟩) hg3).trans q1
          have j2 := (hbz.cell (p := ⟨g3, o3 + m * 4 + 2, none⟩) hg3).trans q2
          have j3 := (hbz.cell (p := ⟨g3, o3 + m * 4 + 3, none⟩) hg3).trans q3
          obtain ⟨y0, y1, y2⟩ := HSP.out.later hbz hg
          show GivesP _ _ _ (fun v _ => v = .pointer (some ⟨g, o + r * 3, none⟩)) _
          refine GivesP.val (.pointer (some ⟨g, o + r * 3, none⟩)) rfl ?_
          go_simp
        rcases i with _ | i
        · obtain rfl := Option.some.inj ho
          have e11 : ρ (.tmp 50) = .pointer (some ⟨g, o + r * 3, none⟩) := (hdep ⟨11, .data⟩ (by simp) rfl 50 rfl).1
          have ocn : ∀ v, ρ (.const v) = v := fun v => hout (.const v) rfl
          have ofn : ∀ f, ρ (.func f) = .func (.func f) #[] #[] := fun f => hout (.func f) rfl
          clear hdep hout
          refine .inl ⟨rfl, ?_⟩
          have hbz := HXB.out.trans (hBx.mono HXB.out.size)
          have hst := (hBx.cell (p := ⟨x0.heap.size, 1, none⟩) (Nat.lt_trans (Nat.lt_succ_self _) HBX.out.2)).trans HBX.out.1
          have hsl : x0.heap.size < x.heap.size := Nat.lt_of_lt_of_le (Nat.lt_trans (Nat.lt_succ_self _) HBX.out.2) hBx.size
          have hcu := (hbz.cell (p := ⟨g2, o2 + n, none⟩) hg2).trans hu
          have j0 := (hbz.cell (p := ⟨g3, o3 + m * 4, none⟩) hg3).trans q0
          have j1 := (hbz.cell (p := ⟨g3, o3 + m * 4 + 1, none⟩) hg3).trans q1
          have j2 := (hbz.cell (p := ⟨g3, o3 + m * 4 + 2, none⟩) hg3).trans q2
          have j3 := (hbz.cell (p := ⟨g3, o3 + m * 4 + 3, none⟩) hg3).trans q3
          obtain ⟨y0, y1, y2⟩ := HSP.out.later hbz hg
          show GivesP _ _ _ (fun v _ => v = .agg #[.bool s1, .int .i64 s2, .int .i64 s3]) _
          refine GivesP.val (.agg #[.bool s1, .int .i64 s2, .int .i64 s3]) rfl ?_
          go_simp
        rcases i with _ | i
        · obtain rfl := Option.some.inj ho
          have e12 : ρ (.tmp 51) = .agg #[.bool s1, .int .i64 s2, .int .i64 s3] := (hdep ⟨12, .data⟩ (by simp) rfl 51 rfl).1
          have ocn : ∀ v, ρ (.const v) = v := fun v => hout (.const v) rfl
          have ofn : ∀ f, ρ (.func f) = .func (.func f) #[] #[] := fun f => hout (.func f) rfl
          clear hdep hout
          refine .inl ⟨rfl, ?_⟩
          show GivesP _ _ _ (fun v x => Owns x (X.heap.size + 1) v KK) _
          refine GivesP.call ((HKC.out x).mono fun e w9 h9 => ⟨h9.choose, h9.choose_spec.1, h9.choose_spec.2.1.lower (Nat.succ_le_succ hBx.size), h9.choose_spec.2.2⟩) ?_
          go_simp
        rcases i with _ | i
        · obtain rfl := Option.some.inj ho
          have t13 := (hdep ⟨13, .data⟩ (by simp) rfl 52 rfl).1
          have t13 : (fun v x => Owns x (X.heap.size + 1) v KK) (ρ (.tmp 52)) x := t13
          obtain t13 := t13
          have ocn : ∀ v, ρ (.const v) = v := fun v => hout (.const v) rfl
          have ofn : ∀ f, ρ (.func f) = .func (.func f) #[] #[] := fun f => hout (.func f) rfl
          clear hdep hout
          refine .inl ⟨rfl, ?_⟩
          show GivesP _ _ _ (fun v x => Owns x (X.heap.size + 1) v KK) _
          exact GivesP.val _ t13 (by go_simp)
        cases ho
      case last =>
        intro V Y hBx hV
        have t14 := hV 14 (by simp)
        have t14 : (fun v x => Owns x (X.heap.size + 1) v KK) (V 14) Y := t14
        obtain t14 := t14
        clear hV
        have HY : Hid (Below x0.heap.size x0 Y) := HXB.out.trans (hBx.mono HXB.out.size)
        have HYX : Hid (Below X.heap.size X Y) := hBx
        have hXl := HBX.out.2
        have HOY : Hid (Y.ownsRow (x0.heap.size + 1) 78 2 (.slice (some ⟨x0.heap.size + 1, 0, none⟩) 0 0) 0 []) := ownsC_later HOW.out hBx
        generalize hkv : V 14 = kv at t14 ⊢
        clear hkv hBx
        obtain ⟨kp, kc, rfl, hkm, hkl⟩ := t14.look
        have HOK : Hid (Owns Y (X.heap.size + 1) (.slice kp KK.length kc) KK) := t14
        clear t14 hkl hkm
        generalize hn : KK.length = kn at *
        have HN : Hid (KK.length = kn) := hn
        clear hn
        have hkni : (kn : Int) ≤ 3 := by omega
        have hXY := HYX.out.size
        clear HOW HKC
        go_wp2_with fail
        go_loopw [9, 11] (fun v i z => ∃ k : Nat, k ≤ kn ∧ i = .int .i64 k ∧ Hid (z.ownsRow (x0.heap.size + 1) 78 2 v k (cellsC B' (KK.take k)) ∧ Below (x0.heap.size + 1) Y z ∧ Owns z (X.heap.size + 1) (.slice kp kn kc) KK ∧ ∀ q, Value.ownBlock (.slice kp kn kc) = some q → v.ownBlock ≠ some q)) (fun _ i _ => kn - (intOf i).toNat)
        case atStart =>
          refine ⟨0, by omega, rfl, HOY.out, Below.refl _ _, HOK.out, fun q hq => ?_⟩
          have h1 := (World.ownsRow.lt HOK.out q hq).1
          intro e
          have e2 : x0.heap.size + 1 = q := by simpa [Value.ownBlock] using e
          omega
        case round =>
          obtain ⟨k, hk, rfl, HZ⟩ := hrel
          obtain ⟨hzo, hzB, hzk, hzn⟩ := HZ.out
          by_cases hlt : k < kn
          · have hki : (k : Int) < (kn : Int) := by omega
            obtain ⟨gk, hgk1, hgk2, hgk3⟩ : ∃ gk, kp = some ⟨gk, 0, none⟩ ∧ gk < wr.heap.size ∧ wr.cell? ⟨gk, k, none⟩ = some (.int .i64 (KK.getD k 0)) := by
              obtain ⟨p', c', e', _, hl⟩ := hzk.look
              injection e' with e1 e2 e3
              rcases hl with h0 | ⟨gk, e, _, hgk, hc⟩
              · have := HN.out; omega
              · exact ⟨gk, e1.trans e, hgk, (hc k (by rw [HN.out]; exact hlt)).1⟩
            subst hgk1
            have HT : Hid (KK.take (k + 1) = KK.take k ++ [KK.getD k 0]) := takeC (by rw [HN.out]; exact hlt)
            generalize KK.getD k 0 = Q at HT hgk3
            have hYl := HY.out.size
            have HW : Hid (wr.cell? ⟨g2, o2 + n, none⟩ = some (.slice (some ⟨g3, o3, none⟩) cl ck) ∧ g2 < wr.heap.size ∧ wr.cell? ⟨g3, o3 + m * 4 + 2, none⟩ = some (.int .i64 B') ∧ g3 < wr.heap.size ∧ wr.cell? ⟨gk, k, none⟩ = some (.int .i64 Q) ∧ gk < wr.heap.size) :=
              ⟨(hzB.cell (p := ⟨g2, o2 + n, none⟩) hg21).trans ((HY.out.cell (p := ⟨g2, o2 + n, none⟩) hg2).trans hu), by have := hzB.size; omega, (hzB.cell (p := ⟨g3, o3 + m * 4 + 2, none⟩) hg31).trans ((HY.out.cell (p := ⟨g3, o3 + m * 4 + 2, none⟩) hg3).trans q2), by have := hzB.size; omega, hgk3, hgk2⟩
            go_wp2_with fail
            refine wp_region_tail (by kernel_rfl) (by kernel_rfl) (by kernel_rfl) (by kernel_rfl) 16 (by kernel_rfl) (by kernel_rfl) _ _ rfl rfl 75 rfl (fun j => [(fun v _ => v = u9), (fun v _ => v = .slice (some ⟨g2, o2, none⟩) pn cap), (fun v _ => v = .int .i64 ↑n), (fun v _ => v = .pointer (some ⟨g2, o2 + n, none⟩)), (fun v _ => v = .pointer (some ⟨g2, o2 + n, none⟩)), (fun v _ => v = .slice (some ⟨g3, o3, none⟩) cl ck), (fun v _ => v = .int .i64 ↑m), (fun v _ => v = .pointer (some ⟨g3, o3 + m * 4, none⟩)), (fun v _ => v = .pointer (some ⟨g3, o3 + m * 4 + 2, none⟩)), (fun v _ => v = .int .i64 B'), (fun v _ => v = .slice (some ⟨gk, 0, none⟩) kn kc), (fun v _ => v = .int .i64 ↑k), (fun v _ => v = .pointer (some ⟨gk, k, none⟩)), (fun v _ => v = .int .i64 Q), (fun v _ => v = .agg #[.int .i64 B', .int .i64 Q]), (fun v x => OneC B' Q v x)].getD j (fun _ _ => True)) ?stable wr ((Below.refl _ _).drew) ?step ?asg (fun U => ⟨List.toArray ((.slice (some ⟨g2, o2, none⟩) pn cap) :: (.int .i64 ↑n) :: (.int .i64 ↑m) :: (.agg #[.bool true, .slice (some ⟨g, o, none⟩) 3 cs, .bool c, .int .i64 l, .int .i64 u]) :: (undef) :: (undef) :: (undef) :: (.pointer (some ⟨x0.heap.size, 0, none⟩)) :: (.slice none 0 0) :: (U 17) :: (.slice (some ⟨gk, 0, none⟩) kn kc) :: (.int .i64 ↑k) :: (.slice (some ⟨x0.heap.size + 1, 0, none⟩) 0 0) :: (.pointer (some ⟨x0.heap.size, 0, none⟩)) :: (.bool true) :: (.bool false) :: (.bool false) :: (.int .i64 ↑m) :: (.slice (some ⟨g2, o2, none⟩) pn cap) :: (.int .i64 ↑n) :: (.pointer (some ⟨g2, o2 + n, none⟩)) :: (.pointer (some ⟨g2, o2 + n, none⟩)) :: (.slice (some ⟨g3, o3, none⟩) cl ck) :: (.int .i64 ↑cl) :: (.bool false) :: (.bool false) :: (.bool false) :: (.slice (some ⟨g2, o2, none⟩) pn cap) :: (.int .i64 ↑n) :: (.pointer (some ⟨g2, o2 + n, none⟩)) :: (.pointer (some ⟨g2, o2 + n, none⟩)) :: (.slice (some ⟨g3, o3, none⟩) cl ck) :: (.int .i64 ↑m) :: (.pointer (some ⟨g3, o3 + m * 4, none⟩)) :: (.pointer (some ⟨g3, o3 + m * 4, none⟩)) :: (.int .i64 8) :: (.bool false) :: (.bool false) :: (undef) :: (V 0) :: (V 1) :: (V 2) :: (V 3) :: (V 4) :: (V 5) :: (V 6) :: (V 7) :: (V 8) :: (V 9) :: (V 10) :: (V 11) :: (V 12) :: (V 13) :: (.int .i64 ↑k) :: (.slice (some ⟨gk, 0, none⟩) kn kc) :: (.int .i64 ↑kn) :: (.bool true) :: (u57) :: (u58) :: (U 0) :: (U 1) :: (U 2) :: (U 3) :: (U 4) :: (U 5) :: (U 6) :: (U 7) :: (U 8) :: (U 9) :: (U 10) :: (U 11) :: (U 12) :: (U 13) :: (U 14) :: (U 15) :: (U 16) :: (undef) :: []), []⟩) (fun U => by kernel_rfl) ?last
            case stable =>
              intro i v x y ht hb
              rcases i with _ | i
              · exact ht
              rcases i with _ | i
              · exact ht
              rcases i with _ | i
              · exact ht
              rcases i with _ | i
              · exact ht
              rcases i with _ | i
              · exact ht
              rcases i with _ | i
              · exact ht
              rcases i with _ | i
              · exact ht
              rcases i with _ | i
              · exact ht
              rcases i with _ | i
              · exact ht
              rcases i with _ | i
              · exact ht
              rcases i with _ | i
              · exact ht
              rcases i with _ | i
              · exact ht
              rcases i with _ | i
              · exact ht
              rcases i with _ | i
              · exact ht
              rcases i with _ | i
              · exact ht
              rcases i with _ | i
              · exact (OneC.later ht hb)
              exact trivial
            case step =>
              intro i o hin ho ρ y x hBx hdep hout
              rcases i with _ | i
              · obtain rfl := Option.some.inj ho
                have o9 : ρ (.tmp 9) = u9 := hout (.tmp 9) rfl
                have ocn : ∀ v, ρ (.const v) = v := fun v => hout (.const v) rfl
                have ofn : ∀ f, ρ (.func f) = .func (.func f) #[] #[] := fun f => hout (.func f) rfl
                clear hdep hout
                refine .inl ⟨rfl, ?_⟩
                show GivesP _ _ _ (fun v _ => v = u9) _
                refine GivesP.val (u9) rfl ?_
                go_simp
              rcases i with _ | i
              · obtain rfl := Option.some.inj ho
                have o0 : ρ (.tmp 0) = .slice (some ⟨g2, o2, none⟩) pn cap := hout (.tmp 0) rfl
                have ocn : ∀ v, ρ (.const v) = v := fun v => hout (.const v) rfl
                have ofn : ∀ f, ρ (.func f) = .func (.func f) #[] #[] := fun f => hout (.func f) rfl
                clear hdep hout
                refine .inl ⟨rfl, ?_⟩
                show GivesP _ _ _ (fun v _ => v = .slice (some ⟨g2, o2, none⟩) pn cap) _
                refine GivesP.val (.slice (some ⟨g2, o2, none⟩) pn cap) rfl ?_
                go_simp
              rcases i with _ | i
              · obtain rfl := Option.some.inj ho
                have o1 : ρ (.tmp 1) = .int .i64 ↑n := hout (.tmp 1) rfl
                have ocn : ∀ v, ρ (.const v) = v := fun v => hout (.const v) rfl
                have ofn : ∀ f, ρ (.func f) = .func (.func f) #[] #[] := fun f => hout (.func f) rfl
                clear hdep hout
                refine .inl ⟨rfl, ?_⟩
                show GivesP _ _ _ (fun v _ => v = .int .i64 ↑n) _
                refine GivesP.val (.int .i64 ↑n) rfl ?_
                go_simp
              rcases i with _ | i
              · obtain rfl := Option.some.inj ho
                have e1 : ρ (.tmp 60) = .slice (some ⟨g2, o2, none⟩) pn cap := (hdep ⟨1, .data⟩ (by simp) rfl 60 rfl).1
                have e2 : ρ (.tmp 61) = .int .i64 ↑n := (hdep ⟨2, .data⟩ (by simp) rfl 61 rfl).1
                have ocn : ∀ v, ρ (.const v) = v := fun v => hout (.const v) rfl
                have ofn : ∀ f, ρ (.func f) = .func (.func f) #[] #[] := fun f => hout (.func f) rfl
                clear hdep hout
                refine .inl ⟨rfl, ?_⟩
                obtain ⟨a1, a2, a3, a4, a5, a6⟩ := HW.out
                have hcu := (hBx.cell (p := ⟨g2, o2 + n, none⟩) a2).trans a1
                have hb2 := (hBx.cell (p := ⟨g3, o3 + m * 4 + 2, none⟩) a4).trans a3
                have hkk := (hBx.cell (p := ⟨gk, k, none⟩) a6).trans a5
                have zz2 := Nat.lt_of_lt_of_le a2 hBx.size
                have zz4 := Nat.lt_of_lt_of_le a4 hBx.size
                have zz6 := Nat.lt_of_lt_of_le a6 hBx.size
                show GivesP _ _ _ (fun v _ => v = .pointer (some ⟨g2, o2 + n, none⟩)) _
                refine GivesP.val (.pointer (some ⟨g2, o2 + n, none⟩)) rfl ?_
                go_simp
              rcases i with _ | i
              · obtain rfl := Option.some.inj ho
                have e3 : ρ (.tmp 62) = .pointer (some ⟨g2, o2 + n, none⟩) := (hdep ⟨3, .data⟩ (by simp) rfl 62 rfl).1
                have ocn : ∀ v, ρ (.const v) = v := fun v => hout (.const v) rfl
                have ofn : ∀ f, ρ (.func f) = .func (.func f) #[] #[] := fun f => hout (.func f) rfl
                clear hdep hout
                refine .inl ⟨rfl, ?_⟩
                obtain ⟨a1, a2, a3, a4, a5, a6⟩ := HW.out
                have hcu := (hBx.cell (p := ⟨g2, o2 + n, none⟩) a2).trans a1
                have hb2 := (hBx.cell (p := ⟨g3, o3 + m * 4 + 2, none⟩) a4).trans a3
                have hkk := (hBx.cell (p := ⟨gk, k, none⟩) a6).trans a5
                have zz2 := Nat.lt_of_lt_of_le a2 hBx.size
                have zz4 := Nat.lt_of_lt_of_le a4 hBx.size
                have zz6 := Nat.lt_of_lt_of_le a6 hBx.size
                show GivesP _ _ _ (fun v _ => v = .pointer (some ⟨g2, o2 + n, none⟩)) _
                refine GivesP.val (.pointer (some ⟨g2, o2 + n, none⟩)) rfl ?_
                go_simp
              rcases i with _ | i
              · obtain rfl := Option.some.inj ho
                have e4 : ρ (.tmp 63) = .pointer (some ⟨g2, o2 + n, none⟩) := (hdep ⟨4, .data⟩ (by simp) rfl 63 rfl).1
                have ocn : ∀ v, ρ (.const v) = v := fun v => hout (.const v) rfl
                have ofn : ∀ f, ρ (.func f) = .func (.func f) #[] #[] := fun f => hout (.func f) rfl
                clear hdep hout
                refine .inl ⟨rfl, ?_⟩
                obtain ⟨a1, a2, a3, a4, a5, a6⟩ := HW.out
                have hcu := (hBx.cell (p := ⟨g2, o2 + n, none⟩) a2).trans a1
                have hb2 := (hBx.cell (p := ⟨g3, o3 + m * 4 + 2, none⟩) a4).trans a3
                have hkk := (hBx.cell (p := ⟨gk, k, none⟩) a6).trans a5
                have zz2 := Nat.lt_of_lt_of_le a2 hBx.size
                have zz4 := Nat.lt_of_lt_of_le a4 hBx.size
                have zz6 := Nat.lt_of_lt_of_le a6 hBx.size
                show GivesP _ _ _ (fun v _ => v = .slice (some ⟨g3, o3, none⟩) cl ck) _
                refine GivesP.val (.slice (some ⟨g3, o3, none⟩) cl ck) rfl ?_
                go_simp
              rcases i with _ | i
              · obtain rfl := Option.some.inj ho
                have o2 : ρ (.tmp 2) = .int .i64 ↑m := hout (.tmp 2) rfl
                have ocn : ∀ v, ρ (.const v) = v := fun v => hout (.const v) rfl
                have ofn : ∀ f, ρ (.func f) = .func (.func f) #[] #[] := fun f => hout (.func f) rfl
                clear hdep hout
                refine .inl ⟨rfl, ?_⟩
                show GivesP _ _ _ (fun v _ => v = .int .i64 ↑m) _
                refine GivesP.val (.int .i64 ↑m) rfl ?_
                go_simp
              rcases i with _ | i
              · obtain rfl := Option.some.inj ho
                have e5 : ρ (.tmp 64) = .slice (some ⟨g3, o3, none⟩) cl ck := (hdep ⟨5, .data⟩ (by simp) rfl 64 rfl).1
                have e6 : ρ (.tmp 65) = .int .i64 ↑m := (hdep ⟨6, .data⟩ (by simp) rfl 65 rfl).1
                have ocn : ∀ v, ρ (.const v) = v := fun v => hout (.const v) rfl
                have ofn : ∀ f, ρ (.func f) = .func (.func f) #[] #[] := fun f => hout (.func f) rfl
                clear hdep hout
                refine .inl ⟨rfl, ?_⟩
                obtain ⟨a1, a2, a3, a4, a5, a6⟩ := HW.out
                have hcu := (hBx.cell (p := ⟨g2, o2 + n, none⟩) a2).trans a1
                have hb2 := (hBx.cell (p := ⟨g3, o3 + m * 4 + 2, none⟩) a4).trans a3
                have hkk := (hBx.cell (p := ⟨gk, k, none⟩) a6).trans a5
                have zz2 := Nat.lt_of_lt_of_le a2 hBx.size
                have zz4 := Nat.lt_of_lt_of_le a4 hBx.size
                have zz6 := Nat.lt_of_lt_of_le a6 hBx.size
                show GivesP _ _ _ (fun v _ => v = .pointer (some ⟨g3, o3 + m * 4, none⟩)) _
                refine GivesP.val (.pointer (some ⟨g3, o3 + m * 4, none⟩)) rfl ?_
                go_simp
              rcases i with _ | i
              · obtain rfl := Option.some.inj ho
                have e7 : ρ (.tmp 66) = .pointer (some ⟨g3, o3 + m * 4, none⟩) := (hdep ⟨7, .data⟩ (by simp) rfl 66 rfl).1
                have ocn : ∀ v, ρ (.const v) = v := fun v => hout (.const v) rfl
                have ofn : ∀ f, ρ (.func f) = .func (.func f) #[] #[] := fun f => hout (.func f) rfl
                clear hdep hout
                refine .inl ⟨rfl, ?_⟩
                obtain ⟨a1, a2, a3, a4, a5, a6⟩ := HW.out
                have hcu := (hBx.cell (p := ⟨g2, o2 + n, none⟩) a2).trans a1
                have hb2 := (hBx.cell (p := ⟨g3, o3 + m * 4 + 2, none⟩) a4).trans a3
                have hkk := (hBx.cell (p := ⟨gk, k, none⟩) a6).trans a5
                have zz2 := Nat.lt_of_lt_of_le a2 hBx.size
                have zz4 := Nat.lt_of_lt_of_le a4 hBx.size
                have zz6 := Nat.lt_of_lt_of_le a6 hBx.size
                show GivesP _ _ _ (fun v _ => v = .pointer (some ⟨g3, o3 + m * 4 + 2, none⟩)) _
                refine GivesP.val (.pointer (some ⟨g3, o3 + m * 4 + 2, none⟩)) rfl ?_
                go_simp
              rcases i with _ | i
              · obtain rfl := Option.some.inj ho
                have e8 : ρ (.tmp 67) = .pointer (some ⟨g3, o3 + m * 4 + 2, none⟩) := (hdep ⟨8, .data⟩ (by simp) rfl 67 rfl).1
                have ocn : ∀ v, ρ (.const v) = v := fun v => hout (.const v) rfl
                have ofn : ∀ f, ρ (.func f) = .func (.func f) #[] #[] := fun f => hout (.func f) rfl
                clear hdep hout
                refine .inl ⟨rfl, ?_⟩
                obtain ⟨a1, a2, a3, a4, a5, a6⟩ := HW.out
                have hcu := (hBx.cell (p := ⟨g2, o2 + n, none⟩) a2).trans a1
                have hb2 := (hBx.cell (p := ⟨g3, o3 + m * 4 + 2, none⟩) a4).trans a3
                have hkk := (hBx.cell (p := ⟨gk, k, none⟩) a6).trans a5
                have zz2 := Nat.lt_of_lt_of_le a2 hBx.size
                have zz4 := Nat.lt_of_lt_of_le a4 hBx.size
                have zz6 := Nat.lt_of_lt_of_le a6 hBx.size
                show GivesP _ _ _ (fun v _ => v = .int .i64 B') _
                refine GivesP.val (.int .i64 B') rfl ?_
                go_simp
              rcases i with _ | i
              · obtain rfl := Option.some.inj ho
                have o10 : ρ (.tmp 10) = .slice (some ⟨gk, 0, none⟩) kn kc := hout (.tmp 10) rfl
                have ocn : ∀ v, ρ (.const v) = v := fun v => hout (.const v) rfl
                have ofn : ∀ f, ρ (.func f) = .func (.func f) #[] #[] := fun f => hout (.func f) rfl
                clear hdep hout
                refine .inl ⟨rfl, ?_⟩
                show GivesP _ _ _ (fun v _ => v = .slice (some ⟨gk, 0, none⟩) kn kc) _
                refine GivesP.val (.slice (some ⟨gk, 0, none⟩) kn kc) rfl ?_
                go_simp
              rcases i with _ | i
              · obtain rfl := Option.some.inj ho
                have o11 : ρ (.tmp 11) = .int .i64 ↑k := hout (.tmp 11) rfl
                have ocn : ∀ v, ρ (.const v) = v := fun v => hout (.const v) rfl
                have ofn : ∀ f, ρ (.func f) = .func (.func f) #[] #[] := fun f => hout (.func f) rfl
                clear hdep hout
                refine .inl ⟨rfl, ?_⟩
                show GivesP _ _ _ (fun v _ => v = .int .i64 ↑k) _
                refine GivesP.val (.int .i64 ↑k) rfl ?_
                go_simp
              rcases i with _ | i
              · obtain rfl := Option.some.inj ho
                have e10 : ρ (.tmp 69) = .slice (some ⟨gk, 0, none⟩) kn kc := (hdep ⟨10, .data⟩ (by simp) rfl 69 rfl).1
                have e11 : ρ (.tmp 70) = .int .i64 ↑k := (hdep ⟨11, .data⟩ (by simp) rfl 70 rfl).1
                have ocn : ∀ v, ρ (.const v) = v := fun v => hout (.const v) rfl
                have ofn : ∀ f, ρ (.func f) = .func (.func f) #[] #[] := fun f => hout (.func f) rfl
                clear hdep hout
                refine .inl ⟨rfl, ?_⟩
                obtain ⟨a1, a2, a3, a4, a5, a6⟩ := HW.out
                have hcu := (hBx.cell (p := ⟨g2, o2 + n, none⟩) a2).trans a1
                have hb2 := (hBx.cell (p := ⟨g3, o3 + m * 4 + 2, none⟩) a4).trans a3
                have hkk := (hBx.cell (p := ⟨gk, k, none⟩) a6).trans a5
                have zz2 := Nat.lt_of_lt_of_le a2 hBx.size
                have zz4 := Nat.lt_of_lt_of_le a4 hBx.size
                have zz6 := Nat.lt_of_lt_of_le a6 hBx.size
                show GivesP _ _ _ (fun v _ => v = .pointer (some ⟨gk, k, none⟩)) _
                refine GivesP.val (.pointer (some ⟨gk, k, none⟩)) rfl ?_
                go_simp
              rcases i with _ | i
              · obtain rfl := Option.some.inj ho
                have e12 : ρ (.tmp 71) = .pointer (some ⟨gk, k, none⟩) := (hdep ⟨12, .data⟩ (by simp) rfl 71 rfl).1
                have ocn : ∀ v, ρ (.const v) = v := fun v => hout (.const v) rfl
                have ofn : ∀ f, ρ (.func f) = .func (.func f) #[] #[] := fun f => hout (.func f) rfl
                clear hdep hout
                refine .inl ⟨rfl, ?_⟩
                obtain ⟨a1, a2, a3, a4, a5, a6⟩ := HW.out
                have hcu := (hBx.cell (p := ⟨g2, o2 + n, none⟩) a2).trans a1
                have hb2 := (hBx.cell (p := ⟨g3, o3 + m * 4 + 2, none⟩) a4).trans a3
                have hkk := (hBx.cell (p := ⟨gk, k, none⟩) a6).trans a5
                have zz2 := Nat.lt_of_lt_of_le a2 hBx.size
                have zz4 := Nat.lt_of_lt_of_le a4 hBx.size
                have zz6 := Nat.lt_of_lt_of_le a6 hBx.size
                show GivesP _ _ _ (fun v _ => v = .int .i64 Q) _
                refine GivesP.val (.int .i64 Q) rfl ?_
                go_simp
              rcases i with _ | i
              · obtain rfl := Option.some.inj ho
                have e9 : ρ (.tmp 68) = .int .i64 B' := (hdep ⟨9, .data⟩ (by simp) rfl 68 rfl).1
                have e13 : ρ (.tmp 72) = .int .i64 Q := (hdep ⟨13, .data⟩ (by simp) rfl 72 rfl).1
                have ocn : ∀ v, ρ (.const v) = v := fun v => hout (.const v) rfl
                have ofn : ∀ f, ρ (.func f) = .func (.func f) #[] #[] := fun f => hout (.func f) rfl
                clear hdep hout
                refine .inl ⟨rfl, ?_⟩
                show GivesP _ _ _ (fun v _ => v = .agg #[.int .i64 B', .int .i64 Q]) _
                refine GivesP.val (.agg #[.int .i64 B', .int .i64 Q]) rfl ?_
                go_simp
              rcases i with _ | i
              · obtain rfl := Option.some.inj ho
                have e14 : ρ (.tmp 73) = .agg #[.int .i64 B', .int .i64 Q] := (hdep ⟨14, .data⟩ (by simp) rfl 73 rfl).1
                have ocn : ∀ v, ρ (.const v) = v := fun v => hout (.const v) rfl
                have ofn : ∀ f, ρ (.func f) = .func (.func f) #[] #[] := fun f => hout (.func f) rfl
                clear hdep hout
                refine .inl ⟨rfl, ?_⟩
                show GivesP _ _ _ (fun v x => OneC B' Q v x) _
                refine GivesP.made (.slice (some ⟨x.heap.size, 0, none⟩) 1 1) (x.alloc (.cells #[.int .i64 B', .int .i64 Q] 78)) ((Below.refl _ _).alloc (Nat.le_refl _) _) (OneC.new B' Q x) ?_
                go_simp
              exact absurd hin (by omega)
            case asg =>
              intro ρ x v hv
              go_simp
            case last =>
              intro U ρ x hBx hV hρ hout
              have e0 : U 0 = u9 := hV 0 (by omega)
              have p0 : ρ (.tmp 59) = U 0 := hρ 0 (by omega) 59 rfl
              have t15 := hV 15 (by omega)
              have t15 : (fun v x => OneC B' Q v x) (U 15) x := t15
              obtain t15 := t15
              have p15 : ρ (.tmp 74) = U 15 := hρ 15 (by omega) 74 rfl
              clear hV hρ hout
              have hbs : x0.heap.size + 1 ≤ x.heap.size := by have h1 := hzB.size; have h2 := hBx.size; have := HYX.out.size; omega
              obtain ⟨v', w', hrun, hown', hB', hgrow, hat⟩ := app_one x _ (x0.heap.size + 1) k _ _ _ B' Q (ownsC_later hzo hBx) (by omega) hbs t15
              refine ⟨v', w', exec_app (.tmp 59) (.tmp 74) 30 rfl (p0.trans e0) p15 hrun, ?_⟩
              have HZ3 : Hid (w'.ownsRow (x0.heap.size + 1) 78 2 v' (k + 1) (cellsC B' (KK.take (k + 1))) ∧ Below (x0.heap.size + 1) Y w' ∧ Owns w' (X.heap.size + 1) (.slice (some ⟨gk, 0, none⟩) kn kc) KK ∧ ∀ q, Value.ownBlock (.slice (some ⟨gk, 0, none⟩) kn kc) = some q → v'.ownBlock ≠ some q) := by
                refine ⟨by rw [HT.out, cellsC_app]; exact hown', (hzB.trans (hBx.mono (by have h1 := hzB.size; have := HYX.out.size; omega))).trans hB', World.ownsRow.kept (hzk.later hBx) hgrow (.inr fun e => hzn gk rfl e.symm), fun q hq => ?_⟩
                have hq2 : gk = q := by simpa [Value.ownBlock] using hq
                subst hq2
                have h6 := Nat.lt_of_lt_of_le HW.out.2.2.2.2.2 hBx.size
                rcases hat with e | e
                · rw [e]; exact hzn gk rfl
                · rw [e]; intro e2; injection e2; omega
              clear hrun hown' hB' hgrow hat hbs t15 p15 e0 p0 hBx
              simp only [Nat.reduceLT, ↓reduceIte]
              clear hzo hzB hzk hzn
              go_wp2_with fail
              go_roundw
              case rel => exact ⟨k + 1, by omega, by go_num, HZ3⟩
              case measure => simp [intOf]; omega
          · obtain rfl : k = kn := by omega
            have hki : ¬ (k : Int) < (k : Int) := by omega
            go_wp2_with fail
            go_ret
            have hall : KK.take k = KK := List.take_of_length_le (by rw [HN.out]; exact Nat.le_refl _)
            rw [hall] at hzo
            have hirow := callsOwn (b := B') (K := KK) (by rw [HN.out]; exact hzo) (by rw [HN.out]; omega)
            have hsz := HY.out.size
            exact ⟨u9, rfl, by rw [HSB2.out]; exact hirow.wide (by omega) (Nat.le_refl _) (Nat.le_refl _), HY.out.trans (hzB.mono (by omega))⟩
    · have HK2 : Hid (KK = []) := by show KK = _; rw [HK.out, if_neg h8k]
      have h8b : (K == 8) = false := by simpa using h8k
      have h8n : (K != 8) = true := by simp [h8k]
      clear HK HQ hio hL
      go_enter Try.func29, Try.ntmps29
      go_wp2_with fail
      go_ret
      exact ⟨_, rfl, by rw [HK2.out]; exact IRow.nil, by first | exact ((Below.refl _ _).alloc (Nat.le_refl _) _).alloc (by simp) _ | go_grown⟩

end Go.Proofs.Ytbjegekfghihkaa

/-
  The contract of the model's FlowCalls.
-/
namespace Go.Proofs.Ytbjegekfghihkaa
open Go.RowKit
set_option linter.unusedVariables false
set_option linter.unusedSimpArgs false

set_option maxRecDepth 100000 in
set_option maxHeartbeats 4000000 in
theorem flowCalls_spec (x0 : World) (B : Nat) (v : Value) (P : List (List I4)) (h : ProgAt x0 B v P) (k at_ : Int) (z : Bool) (C E : Nat) (a : Bool) (s : Value) (L : List Sp) (c : Bool) (l u : Int) (hs : SpsAt z x0 C E s L) :
    Calls Try.prog 8 #[v, .int .i64 k, .int .i64 at_, .agg #[.bool a, s, .bool c, .int .i64 l, .int .i64 u]] x0 fun e y => ∃ r, e = .returned r ∧ IRow 2 true y x0.heap.size y.heap.size r (callsK P k at_ a L (c, l, u)).length (callN (callsB P k at_) (callsK P k at_ a L (c, l, u))) ∧ Below x0.heap.size x0 y := by
  obtain ⟨p, cap, rfl, hm⟩ := h.shape
  obtain ⟨ps, cs, rfl⟩ := hs.shape
  have H : Hid (ProgAt x0 B (.slice p P.length cap) P) := h
  have HS : Hid (SpsAt z x0 C E (.slice ps L.length cs) L) := hs
  clear h hm hs
  go_enter Try.func8, Try.ntmps8
  go_wp2_with fail
  generalize hX : x0.alloc (.cells #[.bool a, .slice ps L.length cs, .bool c, .int .i64 l, .int .i64 u] 37) = X
  have HXB : Hid (Below x0.heap.size x0 X) := by show Below x0.heap.size x0 X; rw [← hX]; exact (Below.refl _ _).alloc (Nat.le_refl _) _
  have HB : Hid (Bx5 X x0.heap.size (.bool a) (.slice ps L.length cs) (.bool c) (.int .i64 l) (.int .i64 u)) := by show Bx5 _ _ _ _ _ _ _; rw [← hX]; exact Bx5.new _ _ _ _ _ _ _
  clear hX
  refine (l12At_any X B _ P (H.out.later HXB.out) k at_ z C E a _ L c l u (HS.out.later HXB.out)).mono ?_
  rintro e y ⟨rfl, hb⟩
  have HY : Hid (Below x0.heap.size x0 y) := HXB.out.trans (hb.mono HXB.out.size)
  have HBY : Hid (Bx5 y x0.heap.size (.bool a) (.slice ps L.length cs) (.bool c) (.int .i64 l) (.int .i64 u)) := HB.out.later hb
  clear hb HXB HB
  cases hw : (hasPF P k && placeF P k at_ && stOk a L (c, l, u))
  · have hc : comesF P k at_ a L (c, l, u) = false := by simp only [comesF, hw, Bool.false_and]
    have hout : callsK P k at_ a L (c, l, u) = [] := by unfold callsK; rw [hc]; rfl
    go_wp2_with fail
    go_ret
    exact ⟨_, rfl, by rw [hout]; exact IRow.nil, by first | exact HY.out | exact HY.out.alloc HY.out.size _⟩
  · obtain ⟨_, b0, b1, b2, b3, b4, _⟩ := HBY.out
    cases a
    · have hc : comesF P k at_ false L (c, l, u) = false := by simp only [comesF, Bool.and_false]
      have hout : callsK P k at_ false L (c, l, u) = [] := by unfold callsK; rw [hc]; rfl
      go_wp2_with fail
      refine (l12Called_none y _ _ _ _ c l u).mono ?_
      rintro e y2 ⟨r, rfl, hr, hb2⟩
      go_wp2_with fail
      go_ret
      exact ⟨_, rfl, by rw [hout]; exact (hr _).wide HY.out.size (Nat.le_refl _) (Nat.le_refl _), HY.out.trans (hb2.mono HY.out.size)⟩
    · have hc : comesF P k at_ true L (c, l, u) = true := by simp only [comesF, hw, Bool.and_true]
      obtain ⟨n, m, rfl, rfl, hn, hm, hok, _, _, hL⟩ := comesF_at hc
      have hout : Hid (callsK P n m true L (c, l, u) = callK (P.getD n []) m L) := by
        show callsK P n m true L (c, l, u) = _
        unfold callsK
        rw [if_pos hc]
        rfl
      have houtb : Hid (callsB P n m = callB (P.getD n []) m) := rfl
      have HG := l12Called_any y B _ P (H.out.later HY.out) n m hn hm hok z C E _ L c l u (HS.out.later HY.out) hL
      have HGG : Hid (Calls Try.prog 29 #[.slice p P.length cap, .int .i64 n, .int .i64 m, .agg #[.bool true, .slice ps L.length cs, .bool c, .int .i64 l, .int .i64 u]] y fun e y2 => ∃ r, e = .returned r ∧ IRow 2 true y2 y.heap.size y2.heap.size r (callK (P.getD n []) m L).length (callN (callB (P.getD n []) m) (callK (P.getD n []) m L)) ∧ Below y.heap.size y y2) := HG
      clear hc hw hn hm hok hL HG
      generalize callK (P.getD n []) m L = S at hout HGG
      generalize callB (P.getD n []) m = SB at houtb HGG
      go_wp2_with fail
      refine HGG.out.mono ?_
      rintro e y2 ⟨r, rfl, hr, hb2⟩
      have hr2 := hr.wide HY.out.size (Nat.le_refl _) (Nat.le_refl _)
      go_wp2_with fail
      go_ret
      exact ⟨_, rfl, by rw [hout.out, houtb.out]; exact hr2, HY.out.trans (hb2.mono HY.out.size)⟩

end Go.Proofs.Ytbjegekfghihkaa
