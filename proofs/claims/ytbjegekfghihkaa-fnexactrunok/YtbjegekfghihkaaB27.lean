import Derived.Test.YtbjegekfghihkaaB24
import Derived.Test.YtbjegekfghihkaaB25
/-
  The contract of the laws' own helper that copies a whole run: toRun.
-/
namespace Go.Proofs.Ytbjegekfghihkaa
open Go.RowKit
set_option linter.unusedVariables false
set_option linter.unusedSimpArgs false

/-- a run's six numbers: its steps, its end, what it gave back, its site -/
abbrev R6 := Int × Int × Int × (Int × Int × Int)
/-- the value of a run -/
def aggRun (s : Value) (q : R6) : Value := .agg #[s, .int .i64 q.1, .int .i64 q.2.1, .int .i64 q.2.2.1, .int .i64 q.2.2.2.1, .int .i64 q.2.2.2.2.1, .int .i64 q.2.2.2.2.2]

set_option maxRecDepth 100000 in
set_option maxHeartbeats 4000000 in
theorem toRun_any (x : World) (s : Value) (F : List Fr) (h : FrsAt x s F) (hn : F.length ≤ 1048576) (hall : ∀ j, j < F.length → (F.getD j fr0).r.length ≤ 1048576 ∧ (F.getD j fr0).c.length ≤ 1048576) (q : R6) :
    Calls Try.prog 21 #[aggRun s q] x fun e y => ∃ u, e = .returned (aggRun u q) ∧ FrsAt y u F ∧ Below x.heap.size x y := by
  obtain ⟨n1, n2, n3, n4, n5, n6⟩ := q
  unfold aggRun
  dsimp only
  obtain ⟨p, cap, rfl, _⟩ := h.shape
  have HF : Hid (FrsAt x (.slice p F.length cap) F) := h
  have HA : Hid (F.length ≤ 1048576 ∧ ∀ j, j < F.length → (F.getD j fr0).r.length ≤ 1048576 ∧ (F.getD j fr0).c.length ≤ 1048576) := ⟨hn, hall⟩
  clear h hn hall
  generalize hL : F.length = n at *
  have HL : Hid (F.length = n) := hL
  clear hL
  go_enter Try.func21, Try.ntmps21
  go_wp2_with fail
  generalize hX : ((x.alloc (.cells #[.slice p n cap, .int .i64 n1, .int .i64 n2, .int .i64 n3, .int .i64 n4, .int .i64 n5, .int .i64 n6] 50)).alloc (.cells #[.slice none 0 0, .int .i64 0, .int .i64 0, .int .i64 0, .int .i64 0, .int .i64 0, .int .i64 0] 56)).alloc (.cells #[.slice none 0 0, .int .i64 0, .int .i64 0, .int .i64 0, .int .i64 0, .int .i64 0, .int .i64 0] 56) = X
  have HB : Hid (Below x.heap.size x X) := by show Below _ _ _; rw [← hX]; exact (((Below.refl _ _).alloc (Nat.le_refl _) _).alloc (by simp) _).alloc (by simp; omega) _
  have hsz : Hid (X.heap.size = x.heap.size + 3) := by show _ = _; rw [← hX]; simp
  have K0 : Hid (BxN X x.heap.size [.slice p n cap, .int .i64 n1, .int .i64 n2, .int .i64 n3, .int .i64 n4, .int .i64 n5, .int .i64 n6]) := by
    show BxN _ _ _; rw [← hX]; exact ((BxN.new x [_, _, _, _, _, _, _] _).later ((Below.refl _ _).alloc (Nat.le_refl _) _)).later ((Below.refl _ _).alloc (Nat.le_refl _) _)
  have K1 : Hid (BxN X (x.heap.size + 1) [.slice none 0 0, .int .i64 0, .int .i64 0, .int .i64 0, .int .i64 0, .int .i64 0, .int .i64 0]) := by
    show BxN _ _ _; rw [← hX]
    have := (BxN.new (x.alloc (.cells #[.slice p n cap, .int .i64 n1, .int .i64 n2, .int .i64 n3, .int .i64 n4, .int .i64 n5, .int .i64 n6] 50)) [.slice none 0 0, .int .i64 0, .int .i64 0, .int .i64 0, .int .i64 0, .int .i64 0, .int .i64 0] 56).later ((Below.refl _ _).alloc (Nat.le_refl _) (.cells #[.slice none 0 0, .int .i64 0, .int .i64 0, .int .i64 0, .int .i64 0, .int .i64 0, .int .i64 0] 56))
    simpa using this
  have K2 : Hid (BxN X (x.heap.size + 1 + 1) [.slice none 0 0, .int .i64 0, .int .i64 0, .int .i64 0, .int .i64 0, .int .i64 0, .int .i64 0]) := by
    show BxN _ _ _; rw [← hX]
    have := BxN.new ((x.alloc (.cells #[.slice p n cap, .int .i64 n1, .int .i64 n2, .int .i64 n3, .int .i64 n4, .int .i64 n5, .int .i64 n6] 50)).alloc (.cells #[.slice none 0 0, .int .i64 0, .int .i64 0, .int .i64 0, .int .i64 0, .int .i64 0, .int .i64 0] 56)) [.slice none 0 0, .int .i64 0, .int .i64 0, .int .i64 0, .int .i64 0, .int .i64 0, .int .i64 0] 56
    simpa using this
  clear hX
  refine (toFrameS_new X _ F (HF.out.later HB.out) (by rw [HL.out]; exact HA.out.1) (by rw [HL.out]; exact HA.out.2)).mono ?_
  rintro e y ⟨v1, rfl, h1, hb⟩
  obtain ⟨q1, c1, rfl, _⟩ := h1.frs.shape
  rw [HL.out] at h1 ⊢
  have HB1 : Hid (Below x.heap.size x y) := HB.out.trans (hb.mono HB.out.size)
  have HJ0 := K0.out.laterH hb
  have J1 := K1.out.laterH hb
  have HJ2 := K2.out.laterH hb
  have hs1 := hb.size
  have hsz1 : x.heap.size + 3 ≤ y.heap.size := by have := hsz.out; omega
  have H1 : Hid (FrsD y (x.heap.size + 3) (.slice q1 n c1) F) := h1.lower (by have := hsz.out; omega)
  clear h1 hb K0 K1 K2 HB hsz hs1
  have a1 := HJ0.out.c 1 _ rfl
  have a2 := HJ0.out.c 2 _ rfl
  have a3 := HJ0.out.c 3 _ rfl
  have a4 := HJ0.out.c 4 _ rfl
  have a5 := HJ0.out.c 5 _ rfl
  have a6 := HJ0.out.c 6 _ rfl
  have b0 := HJ2.out.c 0 _ rfl
  have b1 := HJ2.out.c 1 _ rfl
  have b2 := HJ2.out.c 2 _ rfl
  have b3 := HJ2.out.c 3 _ rfl
  have f0 := HJ2.out.fz 0
  have f1 := HJ2.out.fz 1
  have f2 := HJ2.out.fz 2
  have f3 := HJ2.out.fz 3
  have l2 : x.heap.size + 1 + 1 < y.heap.size := by omega
  go_wp2_with fail
  generalize hY : (((y.setCell ⟨x.heap.size + 1 + 1, 0, none⟩ (.slice q1 n c1)).setCell ⟨x.heap.size + 1 + 1, 1, none⟩ (.int .i64 n1)).setCell ⟨x.heap.size + 1 + 1, 2, none⟩ (.int .i64 n2)).setCell ⟨x.heap.size + 1 + 1, 3, none⟩ (.int .i64 n3) = Y
  have HB2 : Hid (Below x.heap.size x Y) := by show Below _ _ _; rw [← hY]; exact (((HB1.out.setCell (p := ⟨x.heap.size + 1 + 1, 0, none⟩) (by show x.heap.size ≤ x.heap.size + 1 + 1; omega) _).setCell (p := ⟨x.heap.size + 1 + 1, 1, none⟩) (by show x.heap.size ≤ x.heap.size + 1 + 1; omega) _).setCell (p := ⟨x.heap.size + 1 + 1, 2, none⟩) (by show x.heap.size ≤ x.heap.size + 1 + 1; omega) _).setCell (p := ⟨x.heap.size + 1 + 1, 3, none⟩) (by show x.heap.size ≤ x.heap.size + 1 + 1; omega) _
  have M0 : Hid (BxN Y x.heap.size [.slice p n cap, .int .i64 n1, .int .i64 n2, .int .i64 n3, .int .i64 n4, .int .i64 n5, .int .i64 n6]) := by show BxN _ _ _; rw [← hY]; exact (((HJ0.out.off (by omega)).off (by omega)).off (by omega)).off (by omega)
  have M1 : Hid (BxN Y (x.heap.size + 1) [.slice none 0 0, .int .i64 0, .int .i64 0, .int .i64 0, .int .i64 0, .int .i64 0, .int .i64 0]) := by show BxN _ _ _; rw [← hY]; exact (((J1.out.off (by omega)).off (by omega)).off (by omega)).off (by omega)
  have M2 : Hid (BxN Y (x.heap.size + 1 + 1) [.slice q1 n c1, .int .i64 n1, .int .i64 n2, .int .i64 n3, .int .i64 0, .int .i64 0, .int .i64 0]) := by show BxN _ _ _; rw [← hY]; exact (((HJ2.out.set 0 (by simp) _).set 1 (by simp) _).set 2 (by simp) _).set 3 (by simp) _
  have H12 : Hid (FrsD Y (x.heap.size + 3) (.slice q1 n c1) F) := by show FrsD _ _ _ _; rw [← hY]; exact (((H1.out.off (by omega)).off (by omega)).off (by omega)).off (by omega)
  have hsz2 : Y.heap.size = y.heap.size := by rw [← hY]; simp
  clear hY a1 a2 a3 a4 a5 a6 b0 b1 b2 b3 f0 f1 f2 f3 l2 H1 HJ0 HJ2 J1 HB1
  refine (toSite_at n4 n5 n6 Y).mono ?_
  rintro e z ⟨rfl, hb⟩
  have HB3 : Hid (Below x.heap.size x z) := HB2.out.trans (hb.mono HB2.out.size)
  have N0 := M0.out.later hb
  have N1 := M1.out.later hb
  have N2 := M2.out.later hb
  have hs3 := hb.size
  have H13 : Hid (FrsD z (x.heap.size + 3) (.slice q1 n c1) F) := H12.out.later hb
  clear hb M0 M1 M2 H12 HB2
  have hz1 : y.heap.size ≤ z.heap.size := by omega
  clear hs3 hsz2
  have r0 := N1.c 0 _ rfl
  have r1 := N1.c 1 _ rfl
  have r2 := N1.c 2 _ rfl
  have r3 := N1.c 3 _ rfl
  have r4 := N1.c 4 _ rfl
  have r5 := N1.c 5 _ rfl
  have r6 := N1.c 6 _ rfl
  have g0 := N1.fz 0
  have g1 := N1.fz 1
  have g2 := N1.fz 2
  have g3 := N1.fz 3
  have g4 := N1.fz 4
  have g5 := N1.fz 5
  have g6 := N1.fz 6
  have b0 := N2.c 0 _ rfl
  have b1 := N2.c 1 _ rfl
  have b2 := N2.c 2 _ rfl
  have b3 := N2.c 3 _ rfl
  have b4 := N2.c 4 _ rfl
  have b5 := N2.c 5 _ rfl
  have b6 := N2.c 6 _ rfl
  have f4 := N2.fz 4
  have f5 := N2.fz 5
  have f6 := N2.fz 6
  have l1 : x.heap.size + 1 < z.heap.size := by omega
  have l2 : x.heap.size + 1 + 1 < z.heap.size := by omega
  clear N0 N1 N2
  go_wp2_with fail
  refine bodyPost_ret (v := .agg #[.slice q1 n c1, .int .i64 n1, .int .i64 n2, .int .i64 n3, .int .i64 n4, .int .i64 n5, .int .i64 n6]) (by simp [results, Try.results21, go_sem, l1, l2, b0, b1, b2, b3, b4, b5, b6, r0, r1, r2, r3, r4, r5, r6, g0, g1, g2, g3, g4, g5, g6, f4, f5, f6]) rfl ⟨_, rfl, ?_, ?_⟩
  · refine FrsD.frs (B := x.heap.size + 3) ?_
    repeat (refine FrsD.off ?_ (by omega))
    exact H13.out
  · repeat (refine Below.setCell ?_ (by simp <;> omega) _)
    exact HB3.out

end Go.Proofs.Ytbjegekfghihkaa

/-
  Whether a site is ok: the contract of the model's l3SiteOk.
-/
namespace Go.Proofs.Ytbjegekfghihkaa
open Go.RowKit
set_option linter.unusedVariables false
set_option linter.unusedSimpArgs false

theorem eqb2 (a b : Int) (h : ¬ a = 0) : (b == a) = (!decide (a = 0) && decide (b = a)) := by
  by_cases h6 : b = a
  · subst h6; simp [h]
  · simp [h, h6]
theorem l6In_b (n lo hi : Int) (v : Bool) (h : inI n lo hi = v) (w : World) : Calls Try.prog 50 #[.int .i64 n, .int .i64 lo, .int .i64 hi] w fun e w' => e = .returned (.bool v) ∧ Below w.heap.size w w' := by
  subst h
  refine (l6In_e n lo hi w).mono ?_
  rintro e w' ⟨rfl, rfl⟩
  exact ⟨rfl, Below.refl _ _⟩

set_option maxRecDepth 100000 in
set_option maxHeartbeats 8000000 in
theorem l3SiteOk_any (x0 : World) (B : Nat) (v : Value) (P : List (List I4)) (h : ProgAt x0 B v P) (hok : progOkF P = true) (s : Int × Int × Int) :
    Calls Try.prog 74 #[v, .agg #[.int .i64 s.1, .int .i64 s.2.1, .int .i64 s.2.2]] x0 fun e y => e = .returned (.bool (siteOkF P s)) ∧ Below x0.heap.size x0 y := by
  obtain ⟨n0, n1, n2⟩ := s
  obtain ⟨p, cap, rfl, _⟩ := h.shape
  have H : Hid (ProgAt x0 B (.slice p P.length cap) P) := h
  have hl := progOkF_len hok
  have HOK : Hid (progOkF P = true) := hok
  have hn4 : (P.length : Int) ≤ 4 := by omega
  have hn1 : 1 ≤ (P.length : Int) := by omega
  have HFr : Hid (siteOkF P (n0, n1, n2) = (inI n0 0 (P.length - 1) && inI n1 0 ((P.getD n0.toNat []).length - 1) && !decide (n2 = 0) && decide (faultF ((P.getD n0.toNat []).getD n1.toNat i0) = n2))) := rfl
  generalize hFF : siteOkF P (n0, n1, n2) = FF at HFr
  clear hFF h hok hl
  dsimp only
  have HAl : Hid (Below x0.heap.size x0 (x0.alloc (.cells #[.int .i64 n0, .int .i64 n1, .int .i64 n2] 54))) := (Below.refl _ _).alloc (Nat.le_refl _) _
  have K00 : Hid (BxN (x0.alloc (.cells #[.int .i64 n0, .int .i64 n1, .int .i64 n2] 54)) x0.heap.size [.int .i64 n0, .int .i64 n1, .int .i64 n2]) := BxN.new x0 [_, _, _] _
  cases g1 : inI n0 0 (P.length - 1)
  · generalize P.length = pn at *
    go_enter Try.func74, Try.ntmps74
    go_wp2_with fail
    generalize x0.alloc (.cells #[.int .i64 n0, .int .i64 n1, .int .i64 n2] 54) = X at HAl K00 ⊢
    refine wp_region_vals (by kernel_rfl) (by kernel_rfl) (by kernel_rfl) (by kernel_rfl) (fun j => [.pointer (some ⟨x0.heap.size, 0, none⟩), .int .i64 n0, .slice p pn cap, .int .i64 pn, .int .i64 ((pn : Int) - 1), .bool false, .bool false, undef, undef, undef, undef, undef, undef, undef, undef, undef, undef, undef, .bool false, .bool false, undef, undef, undef, .bool false, .bool false, undef, undef, undef, undef, undef, undef, undef, undef, undef, undef, undef, undef, undef, undef, .bool false, .bool false].getD j undef) X (Below.drew (Below.refl _ _)) ?step ⟨#[.slice p pn cap, .agg #[.int .i64 n0, .int .i64 n1, .int .i64 n2], undef, .pointer (some ⟨x0.heap.size, 0, none⟩), .bool false, .pointer (some ⟨x0.heap.size, 0, none⟩), .int .i64 n0, .slice p pn cap, .int .i64 pn, .int .i64 ((pn : Int) - 1), .bool false, .bool false, undef, undef, undef, undef, undef, undef, undef, undef, undef, undef, undef, .bool false, .bool false, undef, undef, undef, .bool false, .bool false, undef, undef, undef, undef, undef, undef, undef, undef, undef, undef, undef, undef, undef, undef, .bool false], []⟩ (by kernel_rfl) ?fin
    case step =>
      intro i o ho ρ y x hBx hdep hout
      rcases i with _ | i
      · obtain rfl := Option.some.inj ho
        have o3 : ρ (.tmp 3) = .pointer (some ⟨x0.heap.size, 0, none⟩) := hout (.tmp 3) rfl
        have ocn : ∀ v, ρ (.const v) = v := fun v => hout (.const v) rfl
        have ofn : ∀ f, ρ (.func f) = .func (.func f) #[] #[] := fun f => hout (.func f) rfl
        clear hdep hout
        refine .inl ⟨?_, ?_⟩
        · rfl
        show Gives _ _ _ (.pointer (some ⟨x0.heap.size, 0, none⟩)) _
        refine Gives.val ?_
        go_simp
      rcases i with _ | i
      · obtain rfl := Option.some.inj ho
        have e0 : ρ (.tmp 5) = .pointer (some ⟨x0.heap.size, 0, none⟩) := (hdep ⟨0, .data⟩ (by simp) rfl).1 5 rfl
        have ocn : ∀ v, ρ (.const v) = v := fun v => hout (.const v) rfl
        have ofn : ∀ f, ρ (.func f) = .func (.func f) #[] #[] := fun f => hout (.func f) rfl
        clear hdep hout
        refine .inl ⟨?_, ?_⟩
        · rfl
        have kb := K00.out.later hBx
        have c0 := kb.c 0 _ rfl
        have c1 := kb.c 1 _ rfl
        have c2 := kb.c 2 _ rfl
        have cl0 := kb.lt
        show Gives _ _ _ (.int .i64 n0) _
        refine Gives.val ?_
        go_simp
      rcases i with _ | i
      · obtain rfl := Option.some.inj ho
        have o0 : ρ (.tmp 0) = .slice p pn cap := hout (.tmp 0) rfl
        have ocn : ∀ v, ρ (.const v) = v := fun v => hout (.const v) rfl
        have ofn : ∀ f, ρ (.func f) = .func (.func f) #[] #[] := fun f => hout (.func f) rfl
        clear hdep hout
        refine .inl ⟨?_, ?_⟩
        · rfl
        show Gives _ _ _ (.slice p pn cap) _
        refine Gives.val ?_
        go_simp
      rcases i with _ | i
      · obtain rfl := Option.some.inj ho
        have e2 : ρ (.tmp 7) = .slice p pn cap := (hdep ⟨2, .data⟩ (by simp) rfl).1 7 rfl
        have ocn : ∀ v, ρ (.const v) = v := fun v => hout (.const v) rfl
        have ofn : ∀ f, ρ (.func f) = .func (.func f) #[] #[] := fun f => hout (.func f) rfl
        clear hdep hout
        refine .inl ⟨?_, ?_⟩
        · rfl
        show Gives _ _ _ (.int .i64 pn) _
        refine Gives.val ?_
        go_simp
      rcases i with _ | i
      · obtain rfl := Option.some.inj ho
        have e3 : ρ (.tmp 8) = .int .i64 pn := (hdep ⟨3, .data⟩ (by simp) rfl).1 8 rfl
        have ocn : ∀ v, ρ (.const v) = v := fun v => hout (.const v) rfl
        have ofn : ∀ f, ρ (.func f) = .func (.func f) #[] #[] := fun f => hout (.func f) rfl
        clear hdep hout
        refine .inl ⟨?_, ?_⟩
        · rfl
        show Gives _ _ _ (.int .i64 ((pn : Int) - 1)) _
        refine Gives.val ?_
        (go_simp; exact IntWalk.i64_in _ (by omega))
      rcases i with _ | i
      · obtain rfl := Option.some.inj ho
        have e1 : ρ (.tmp 6) = .int .i64 n0 := (hdep ⟨1, .data⟩ (by simp) rfl).1 6 rfl
        have e4 : ρ (.tmp 9) = .int .i64 ((pn : Int) - 1) := (hdep ⟨4, .data⟩ (by simp) rfl).1 9 rfl
        have ocn : ∀ v, ρ (.const v) = v := fun v => hout (.const v) rfl
        have ofn : ∀ f, ρ (.func f) = .func (.func f) #[] #[] := fun f => hout (.func f) rfl
        clear hdep hout
        refine .inl ⟨?_, ?_⟩
        · rfl
        show Gives _ _ _ (.bool false) _
        refine Gives.call (l6In_b n0 0 ((pn : Int) - 1) false g1 x) ?_
        go_simp
      rcases i with _ | i
      · obtain rfl := Option.some.inj ho
        have e5 : ρ (.tmp 10) = .bool false := (hdep ⟨5, .data⟩ (by simp) rfl).1 10 rfl
        have ocn : ∀ v, ρ (.const v) = v := fun v => hout (.const v) rfl
        have ofn : ∀ f, ρ (.func f) = .func (.func f) #[] #[] := fun f => hout (.func f) rfl
        clear hdep hout
        refine .inl ⟨?_, ?_⟩
        · rfl
        show Gives _ _ _ (.bool false) _
        refine Gives.val ?_
        go_simp
      rcases i with _ | i
      · obtain rfl := Option.some.inj ho
        have o3 : ρ (.tmp 3) = .pointer (some ⟨x0.heap.size, 0, none⟩) := hout (.tmp 3) rfl
        have yg : y 6 = some false := (hdep ⟨6, .guard⟩ (by simp) rfl).2 11 rfl
        have ocn : ∀ v, ρ (.const v) = v := fun v => hout (.const v) rfl
        have ofn : ∀ f, ρ (.func f) = .func (.func f) #[] #[] := fun f => hout (.func f) rfl
        clear hdep hout
        refine .inr ⟨?_, rfl⟩
        show (y 6 == some true) = false
        rw [yg]; rfl
      rcases i with _ | i
      · obtain rfl := Option.some.inj ho
        have e7 : ρ (.tmp 12) = undef := (hdep ⟨7, .data⟩ (by simp) rfl).1 12 rfl
        have yg : y 6 = some false := (hdep ⟨6, .guard⟩ (by simp) rfl).2 11 rfl
        have ocn : ∀ v, ρ (.const v) = v := fun v => hout (.const v) rfl
        have ofn : ∀ f, ρ (.func f) = .func (.func f) #[] #[] := fun f => hout (.func f) rfl
        clear hdep hout
        refine .inr ⟨?_, rfl⟩
        show (y 6 == some true) = false
        rw [yg]; rfl
      rcases i with _ | i
      · obtain rfl := Option.some.inj ho
        have o0 : ρ (.tmp 0) = .slice p pn cap := hout (.tmp 0) rfl
        have yg : y 6 = some false := (hdep ⟨6, .guard⟩ (by simp) rfl).2 11 rfl
        have ocn : ∀ v, ρ (.const v) = v := fun v => hout (.const v) rfl
        have ofn : ∀ f, ρ (.func f) = .func (.func f) #[] #[] := fun f => hout (.func f) rfl
        clear hdep hout
        refine .inr ⟨?_, rfl⟩
        show (y 6 == some true) = false
        rw [yg]; rfl
      rcases i with _ | i
      · obtain rfl := Option.some.inj ho
        have o3 : ρ (.tmp 3) = .pointer (some ⟨x0.heap.size, 0, none⟩) := hout (.tmp 3) rfl
        have yg : y 6 = some false := (hdep ⟨6, .guard⟩ (by simp) rfl).2 11 rfl
        have ocn : ∀ v, ρ (.const v) = v := fun v => hout (.const v) rfl
        have ofn : ∀ f, ρ (.func f) = .func (.func f) #[] #[] := fun f => hout (.func f) rfl
        clear hdep hout
        refine .inr ⟨?_, rfl⟩
        show (y 6 == some true) = false
        rw [yg]; rfl
      rcases i with _ | i
      · obtain rfl := Option.some.inj ho
        have e10 : ρ (.tmp 15) = undef := (hdep ⟨10, .data⟩ (by simp) rfl).1 15 rfl
        have yg : y 6 = some false := (hdep ⟨6, .guard⟩ (by simp) rfl).2 11 rfl
        have ocn : ∀ v, ρ (.const v) = v := fun v => hout (.const v) rfl
        have ofn : ∀ f, ρ (.func f) = .func (.func f) #[] #[] := fun f => hout (.func f) rfl
        clear hdep hout
        refine .inr ⟨?_, rfl⟩
        show (y 6 == some true) = false
        rw [yg]; rfl
      rcases i with _ | i
      · obtain rfl := Option.some.inj ho
        have e9 : ρ (.tmp 14) = undef := (hdep ⟨9, .data⟩ (by simp) rfl).1 14 rfl
        have e11 : ρ (.tmp 16) = undef := (hdep ⟨11, .data⟩ (by simp) rfl).1 16 rfl
        have yg : y 6 = some false := (hdep ⟨6, .guard⟩ (by simp) rfl).2 11 rfl
        have ocn : ∀ v, ρ (.const v) = v := fun v => hout (.const v) rfl
        have ofn : ∀ f, ρ (.func f) = .func (.func f) #[] #[] := fun f => hout (.func f) rfl
        clear hdep hout
        refine .inr ⟨?_, rfl⟩
        show (y 6 == some true) = false
        rw [yg]; rfl
      rcases i with _ | i
      · obtain rfl := Option.some.inj ho
        have e12 : ρ (.tmp 17) = undef := (hdep ⟨12, .data⟩ (by simp) rfl).1 17 rfl
        have yg : y 6 = some false := (hdep ⟨6, .guard⟩ (by simp) rfl).2 11 rfl
        have ocn : ∀ v, ρ (.const v) = v := fun v => hout (.const v) rfl
        have ofn : ∀ f, ρ (.func f) = .func (.func f) #[] #[] := fun f => hout (.func f) rfl
        clear hdep hout
        refine .inr ⟨?_, rfl⟩
        show (y 6 == some true) = false
        rw [yg]; rfl
      rcases i with _ | i
      · obtain rfl := Option.some.inj ho
        have e13 : ρ (.tmp 18) = undef := (hdep ⟨13, .data⟩ (by simp) rfl).1 18 rfl
        have yg : y 6 = some false := (hdep ⟨6, .guard⟩ (by simp) rfl).2 11 rfl
        have ocn : ∀ v, ρ (.const v) = v := fun v => hout (.const v) rfl
        have ofn : ∀ f, ρ (.func f) = .func (.func f) #[] #[] := fun f => hout (.func f) rfl
        clear hdep hout
        refine .inr ⟨?_, rfl⟩
        show (y 6 == some true) = false
        rw [yg]; rfl
      rcases i with _ | i
      · obtain rfl := Option.some.inj ho
        have e14 : ρ (.tmp 19) = undef := (hdep ⟨14, .data⟩ (by simp) rfl).1 19 rfl
        have yg : y 6 = some false := (hdep ⟨6, .guard⟩ (by simp) rfl).2 11 rfl
        have ocn : ∀ v, ρ (.const v) = v := fun v => hout (.const v) rfl
        have ofn : ∀ f, ρ (.func f) = .func (.func f) #[] #[] := fun f => hout (.func f) rfl
        clear hdep hout
        refine .inr ⟨?_, rfl⟩
        show (y 6 == some true) = false
        rw [yg]; rfl
      rcases i with _ | i
      · obtain rfl := Option.some.inj ho
        have e15 : ρ (.tmp 20) = undef := (hdep ⟨15, .data⟩ (by simp) rfl).1 20 rfl
        have yg : y 6 = some false := (hdep ⟨6, .guard⟩ (by simp) rfl).2 11 rfl
        have ocn : ∀ v, ρ (.const v) = v := fun v => hout (.const v) rfl
        have ofn : ∀ f, ρ (.func f) = .func (.func f) #[] #[] := fun f => hout (.func f) rfl
        clear hdep hout
        refine .inr ⟨?_, rfl⟩
        show (y 6 == some true) = false
        rw [yg]; rfl
      rcases i with _ | i
      · obtain rfl := Option.some.inj ho
        have e8 : ρ (.tmp 13) = undef := (hdep ⟨8, .data⟩ (by simp) rfl).1 13 rfl
        have e16 : ρ (.tmp 21) = undef := (hdep ⟨16, .data⟩ (by simp) rfl).1 21 rfl
        have yg : y 6 = some false := (hdep ⟨6, .guard⟩ (by simp) rfl).2 11 rfl
        have ocn : ∀ v, ρ (.const v) = v := fun v => hout (.const v) rfl
        have ofn : ∀ f, ρ (.func f) = .func (.func f) #[] #[] := fun f => hout (.func f) rfl
        clear hdep hout
        refine .inr ⟨?_, rfl⟩
        show (y 6 == some true) = false
        rw [yg]; rfl
      rcases i with _ | i
      · obtain rfl := Option.some.inj ho
        have e6 : ρ (.tmp 11) = .bool false := (hdep ⟨6, .data⟩ (by simp) rfl).1 11 rfl
        have e17 : ρ (.tmp 22) = undef := (hdep ⟨17, .data⟩ (by simp) rfl).1 22 rfl
        have ocn : ∀ v, ρ (.const v) = v := fun v => hout (.const v) rfl
        have ofn : ∀ f, ρ (.func f) = .func (.func f) #[] #[] := fun f => hout (.func f) rfl
        clear hdep hout
        refine .inl ⟨?_, ?_⟩
        · rfl
        show Gives _ _ _ (.bool false) _
        refine Gives.val ?_
        go_simp
      rcases i with _ | i
      · obtain rfl := Option.some.inj ho
        have e18 : ρ (.tmp 23) = .bool false := (hdep ⟨18, .data⟩ (by simp) rfl).1 23 rfl
        have ocn : ∀ v, ρ (.const v) = v := fun v => hout (.const v) rfl
        have ofn : ∀ f, ρ (.func f) = .func (.func f) #[] #[] := fun f => hout (.func f) rfl
        clear hdep hout
        refine .inl ⟨?_, ?_⟩
        · rfl
        show Gives _ _ _ (.bool false) _
        refine Gives.val ?_
        go_simp
      rcases i with _ | i
      · obtain rfl := Option.some.inj ho
        have o3 : ρ (.tmp 3) = .pointer (some ⟨x0.heap.size, 0, none⟩) := hout (.tmp 3) rfl
        have yg : y 19 = some false := (hdep ⟨19, .guard⟩ (by simp) rfl).2 24 rfl
        have ocn : ∀ v, ρ (.const v) = v := fun v => hout (.const v) rfl
        have ofn : ∀ f, ρ (.func f) = .func (.func f) #[] #[] := fun f => hout (.func f) rfl
        clear hdep hout
        refine .inr ⟨?_, rfl⟩
        show (y 19 == some true) = false
        rw [yg]; rfl
      rcases i with _ | i
      · obtain rfl := Option.some.inj ho
        have e20 : ρ (.tmp 25) = undef := (hdep ⟨20, .data⟩ (by simp) rfl).1 25 rfl
        have yg : y 19 = some false := (hdep ⟨19, .guard⟩ (by simp) rfl).2 24 rfl
        have ocn : ∀ v, ρ (.const v) = v := fun v => hout (.const v) rfl
        have ofn : ∀ f, ρ (.func f) = .func (.func f) #[] #[] := fun f => hout (.func f) rfl
        clear hdep hout
        refine .inr ⟨?_, rfl⟩
        show (y 19 == some true) = false
        rw [yg]; rfl
      rcases i with _ | i
      · obtain rfl := Option.some.inj ho
        have e21 : ρ (.tmp 26) = undef := (hdep ⟨21, .data⟩ (by simp) rfl).1 26 rfl
        have yg : y 19 = some false := (hdep ⟨19, .guard⟩ (by simp) rfl).2 24 rfl
        have ocn : ∀ v, ρ (.const v) = v := fun v => hout (.const v) rfl
        have ofn : ∀ f, ρ (.func f) = .func (.func f) #[] #[] := fun f => hout (.func f) rfl
        clear hdep hout
        refine .inr ⟨?_, rfl⟩
        show (y 19 == some true) = false
        rw [yg]; rfl
      rcases i with _ | i
      · obtain rfl := Option.some.inj ho
        have e19 : ρ (.tmp 24) = .bool false := (hdep ⟨19, .data⟩ (by simp) rfl).1 24 rfl
        have e22 : ρ (.tmp 27) = undef := (hdep ⟨22, .data⟩ (by simp) rfl).1 27 rfl
        have ocn : ∀ v, ρ (.const v) = v := fun v => hout (.const v) rfl
        have ofn : ∀ f, ρ (.func f) = .func (.func f) #[] #[] := fun f => hout (.func f) rfl
        clear hdep hout
        refine .inl ⟨?_, ?_⟩
        · rfl
        show Gives _ _ _ (.bool false) _
        refine Gives.val ?_
        go_simp
      rcases i with _ | i
      · obtain rfl := Option.some.inj ho
        have e23 : ρ (.tmp 28) = .bool false := (hdep ⟨23, .data⟩ (by simp) rfl).1 28 rfl
        have ocn : ∀ v, ρ (.const v) = v := fun v => hout (.const v) rfl
        have ofn : ∀ f, ρ (.func f) = .func (.func f) #[] #[] := fun f => hout (.func f) rfl
        clear hdep hout
        refine .inl ⟨?_, ?_⟩
        · rfl
        show Gives _ _ _ (.bool false) _
        refine Gives.val ?_
        go_simp
      rcases i with _ | i
      · obtain rfl := Option.some.inj ho
        have o0 : ρ (.tmp 0) = .slice p pn cap := hout (.tmp 0) rfl
        have yg : y 24 = some false := (hdep ⟨24, .guard⟩ (by simp) rfl).2 29 rfl
        have ocn : ∀ v, ρ (.const v) = v := fun v => hout (.const v) rfl
        have ofn : ∀ f, ρ (.func f) = .func (.func f) #[] #[] := fun f => hout (.func f) rfl
        clear hdep hout
        refine .inr ⟨?_, rfl⟩
        show (y 24 == some true) = false
        rw [yg]; rfl
      rcases i with _ | i
      · obtain rfl := Option.some.inj ho
        have o3 : ρ (.tmp 3) = .pointer (some ⟨x0.heap.size, 0, none⟩) := hout (.tmp 3) rfl
        have yg : y 24 = some false := (hdep ⟨24, .guard⟩ (by simp) rfl).2 29 rfl
        have ocn : ∀ v, ρ (.const v) = v := fun v => hout (.const v) rfl
        have ofn : ∀ f, ρ (.func f) = .func (.func f) #[] #[] := fun f => hout (.func f) rfl
        clear hdep hout
        refine .inr ⟨?_, rfl⟩
        show (y 24 == some true) = false
        rw [yg]; rfl
      rcases i with _ | i
      · obtain rfl := Option.some.inj ho
        have e26 : ρ (.tmp 31) = undef := (hdep ⟨26, .data⟩ (by simp) rfl).1 31 rfl
        have yg : y 24 = some false := (hdep ⟨24, .guard⟩ (by simp) rfl).2 29 rfl
        have ocn : ∀ v, ρ (.const v) = v := fun v => hout (.const v) rfl
        have ofn : ∀ f, ρ (.func f) = .func (.func f) #[] #[] := fun f => hout (.func f) rfl
        clear hdep hout
        refine .inr ⟨?_, rfl⟩
        show (y 24 == some true) = false
        rw [yg]; rfl
      rcases i with _ | i
      · obtain rfl := Option.some.inj ho
        have e25 : ρ (.tmp 30) = undef := (hdep ⟨25, .data⟩ (by simp) rfl).1 30 rfl
        have e27 : ρ (.tmp 32) = undef := (hdep ⟨27, .data⟩ (by simp) rfl).1 32 rfl
        have yg : y 24 = some false := (hdep ⟨24, .guard⟩ (by simp) rfl).2 29 rfl
        have ocn : ∀ v, ρ (.const v) = v := fun v => hout (.const v) rfl
        have ofn : ∀ f, ρ (.func f) = .func (.func f) #[] #[] := fun f => hout (.func f) rfl
        clear hdep hout
        refine .inr ⟨?_, rfl⟩
        show (y 24 == some true) = false
        rw [yg]; rfl
      rcases i with _ | i
      · obtain rfl := Option.some.inj ho
        have e28 : ρ (.tmp 33) = undef := (hdep ⟨28, .data⟩ (by simp) rfl).1 33 rfl
        have yg : y 24 = some false := (hdep ⟨24, .guard⟩ (by simp) rfl).2 29 rfl
        have ocn : ∀ v, ρ (.const v) = v := fun v => hout (.const v) rfl
        have ofn : ∀ f, ρ (.func f) = .func (.func f) #[] #[] := fun f => hout (.func f) rfl
        clear hdep hout
        refine .inr ⟨?_, rfl⟩
        show (y 24 == some true) = false
        rw [yg]; rfl
      rcases i with _ | i
      · obtain rfl := Option.some.inj ho
        have e29 : ρ (.tmp 34) = undef := (hdep ⟨29, .data⟩ (by simp) rfl).1 34 rfl
        have yg : y 24 = some false := (hdep ⟨24, .guard⟩ (by simp) rfl).2 29 rfl
        have ocn : ∀ v, ρ (.const v) = v := fun v => hout (.const v) rfl
        have ofn : ∀ f, ρ (.func f) = .func (.func f) #[] #[] := fun f => hout (.func f) rfl
        clear hdep hout
        refine .inr ⟨?_, rfl⟩
        show (y 24 == some true) = false
        rw [yg]; rfl
      rcases i with _ | i
      · obtain rfl := Option.some.inj ho
        have o3 : ρ (.tmp 3) = .pointer (some ⟨x0.heap.size, 0, none⟩) := hout (.tmp 3) rfl
        have yg : y 24 = some false := (hdep ⟨24, .guard⟩ (by simp) rfl).2 29 rfl
        have ocn : ∀ v, ρ (.const v) = v := fun v => hout (.const v) rfl
        have ofn : ∀ f, ρ (.func f) = .func (.func f) #[] #[] := fun f => hout (.func f) rfl
        clear hdep hout
        refine .inr ⟨?_, rfl⟩
        show (y 24 == some true) = false
        rw [yg]; rfl
      rcases i with _ | i
      · obtain rfl := Option.some.inj ho
        have e31 : ρ (.tmp 36) = undef := (hdep ⟨31, .data⟩ (by simp) rfl).1 36 rfl
        have yg : y 24 = some false := (hdep ⟨24, .guard⟩ (by simp) rfl).2 29 rfl
        have ocn : ∀ v, ρ (.const v) = v := fun v => hout (.const v) rfl
        have ofn : ∀ f, ρ (.func f) = .func (.func f) #[] #[] := fun f => hout (.func f) rfl
        clear hdep hout
        refine .inr ⟨?_, rfl⟩
        show (y 24 == some true) = false
        rw [yg]; rfl
      rcases i with _ | i
      · obtain rfl := Option.some.inj ho
        have e30 : ρ (.tmp 35) = undef := (hdep ⟨30, .data⟩ (by simp) rfl).1 35 rfl
        have e32 : ρ (.tmp 37) = undef := (hdep ⟨32, .data⟩ (by simp) rfl).1 37 rfl
        have yg : y 24 = some false := (hdep ⟨24, .guard⟩ (by simp) rfl).2 29 rfl
        have ocn : ∀ v, ρ (.const v) = v := fun v => hout (.const v) rfl
        have ofn : ∀ f, ρ (.func f) = .func (.func f) #[] #[] := fun f => hout (.func f) rfl
        clear hdep hout
        refine .inr ⟨?_, rfl⟩
        show (y 24 == some true) = false
        rw [yg]; rfl
      rcases i with _ | i
      · obtain rfl := Option.some.inj ho
        have e33 : ρ (.tmp 38) = undef := (hdep ⟨33, .data⟩ (by simp) rfl).1 38 rfl
        have yg : y 24 = some false := (hdep ⟨24, .guard⟩ (by simp) rfl).2 29 rfl
        have ocn : ∀ v, ρ (.const v) = v := fun v => hout (.const v) rfl
        have ofn : ∀ f, ρ (.func f) = .func (.func f) #[] #[] := fun f => hout (.func f) rfl
        clear hdep hout
        refine .inr ⟨?_, rfl⟩
        show (y 24 == some true) = false
        rw [yg]; rfl
      rcases i with _ | i
      · obtain rfl := Option.some.inj ho
        have e34 : ρ (.tmp 39) = undef := (hdep ⟨34, .data⟩ (by simp) rfl).1 39 rfl
        have yg : y 24 = some false := (hdep ⟨24, .guard⟩ (by simp) rfl).2 29 rfl
        have ocn : ∀ v, ρ (.const v) = v := fun v => hout (.const v) rfl
        have ofn : ∀ f, ρ (.func f) = .func (.func f) #[] #[] := fun f => hout (.func f) rfl
        clear hdep hout
        refine .inr ⟨?_, rfl⟩
        show (y 24 == some true) = false
        rw [yg]; rfl
      rcases i with _ | i
      · obtain rfl := Option.some.inj ho
        have o3 : ρ (.tmp 3) = .pointer (some ⟨x0.heap.size, 0, none⟩) := hout (.tmp 3) rfl
        have yg : y 24 = some false := (hdep ⟨24, .guard⟩ (by simp) rfl).2 29 rfl
        have ocn : ∀ v, ρ (.const v) = v := fun v => hout (.const v) rfl
        have ofn : ∀ f, ρ (.func f) = .func (.func f) #[] #[] := fun f => hout (.func f) rfl
        clear hdep hout
        refine .inr ⟨?_, rfl⟩
        show (y 24 == some true) = false
        rw [yg]; rfl
      rcases i with _ | i
      · obtain rfl := Option.some.inj ho
        have e36 : ρ (.tmp 41) = undef := (hdep ⟨36, .data⟩ (by simp) rfl).1 41 rfl
        have yg : y 24 = some false := (hdep ⟨24, .guard⟩ (by simp) rfl).2 29 rfl
        have ocn : ∀ v, ρ (.const v) = v := fun v => hout (.const v) rfl
        have ofn : ∀ f, ρ (.func f) = .func (.func f) #[] #[] := fun f => hout (.func f) rfl
        clear hdep hout
        refine .inr ⟨?_, rfl⟩
        show (y 24 == some true) = false
        rw [yg]; rfl
      rcases i with _ | i
      · obtain rfl := Option.some.inj ho
        have e35 : ρ (.tmp 40) = undef := (hdep ⟨35, .data⟩ (by simp) rfl).1 40 rfl
        have e37 : ρ (.tmp 42) = undef := (hdep ⟨37, .data⟩ (by simp) rfl).1 42 rfl
        have yg : y 24 = some false := (hdep ⟨24, .guard⟩ (by simp) rfl).2 29 rfl
        have ocn : ∀ v, ρ (.const v) = v := fun v => hout (.const v) rfl
        have ofn : ∀ f, ρ (.func f) = .func (.func f) #[] #[] := fun f => hout (.func f) rfl
        clear hdep hout
        refine .inr ⟨?_, rfl⟩
        show (y 24 == some true) = false
        rw [yg]; rfl
      rcases i with _ | i
      · obtain rfl := Option.some.inj ho
        have e24 : ρ (.tmp 29) = .bool false := (hdep ⟨24, .data⟩ (by simp) rfl).1 29 rfl
        have e38 : ρ (.tmp 43) = undef := (hdep ⟨38, .data⟩ (by simp) rfl).1 43 rfl
        have ocn : ∀ v, ρ (.const v) = v := fun v => hout (.const v) rfl
        have ofn : ∀ f, ρ (.func f) = .func (.func f) #[] #[] := fun f => hout (.func f) rfl
        clear hdep hout
        refine .inl ⟨?_, ?_⟩
        · rfl
        show Gives _ _ _ (.bool false) _
        refine Gives.val ?_
        go_simp
      rcases i with _ | i
      · obtain rfl := Option.some.inj ho
        have e39 : ρ (.tmp 44) = .bool false := (hdep ⟨39, .data⟩ (by simp) rfl).1 44 rfl
        have ocn : ∀ v, ρ (.const v) = v := fun v => hout (.const v) rfl
        have ofn : ∀ f, ρ (.func f) = .func (.func f) #[] #[] := fun f => hout (.func f) rfl
        clear hdep hout
        refine .inl ⟨?_, ?_⟩
        · rfl
        show Gives _ _ _ (.bool false) _
        refine Gives.val ?_
        go_simp
      cases ho
    case fin =>
      intro x hBx
      have hBf := HAl.out.trans (hBx.mono HAl.out.size)
      go_wp2_with fail
      go_ret
      exact ⟨retBool (by rw [HFr.out, g1]; rfl), hBf⟩
  · obtain ⟨k, rfl⟩ : ∃ k : Nat, n0 = k := ⟨n0.toNat, by simp only [inI, Bool.and_eq_true, decide_eq_true_eq] at g1; omega⟩
    have hk' : k < P.length := by simp only [inI, Bool.and_eq_true, decide_eq_true_eq] at g1; omega
    have hcode := progOkF_code HOK.out hk'
    obtain ⟨g, o, uu, rfl, hg, hu, hc⟩ := H.out.code hk'
    obtain ⟨pk, ck, rfl, _⟩ := hc.shape
    have HFr2 : Hid (FF = (inI n1 0 ((P.getD k []).length - 1) && !decide (n2 = 0) && decide (faultF ((P.getD k []).getD n1.toNat i0) = n2))) := by
      show FF = _
      rw [HFr.out, g1]; simp
    have HC : Hid (CodeAt x0 B (.slice pk (P.getD k []).length ck) (P.getD k [])) := hc
    have HCO : Hid ((P.getD k []).length ≤ 8 ∧ ∀ j, j < (P.getD k []).length → insOkF ((P.getD k []).getD j i0) (P.getD k []).length P.length = true) := hcode
    have hki : (k : Int) < (P.length : Int) := by omega
    have hc8i : ((P.getD k []).length : Int) ≤ 8 := by have := hcode.1; omega
    clear HFr hc hcode
    cases g2 : inI n1 0 ((P.getD k []).length - 1)
    · clear HCO HC
      generalize (P.getD k []).length = cl at *
      generalize P.length = pn at *
      go_enter Try.func74, Try.ntmps74
      go_wp2_with fail
      generalize x0.alloc (.cells #[.int .i64 k, .int .i64 n1, .int .i64 n2] 54) = X at HAl K00 ⊢
      refine wp_region_vals (by kernel_rfl) (by kernel_rfl) (by kernel_rfl) (by kernel_rfl) (fun j => [.pointer (some ⟨x0.heap.size, 0, none⟩), .int .i64 k, .slice (some ⟨g, o, none⟩) pn cap, .int .i64 pn, .int .i64 ((pn : Int) - 1), .bool true, .bool true, .pointer (some ⟨x0.heap.size, 1, none⟩), .int .i64 n1, .slice (some ⟨g, o, none⟩) pn cap, .pointer (some ⟨x0.heap.size, 0, none⟩), .int .i64 k, .pointer (some ⟨g, o + k, none⟩), .pointer (some ⟨g, o + k, none⟩), .slice pk cl ck, .int .i64 cl, .int .i64 ((cl : Int) - 1), .bool false, .bool false, .bool false, undef, undef, undef, .bool false, .bool false, undef, undef, undef, undef, undef, undef, undef, undef, undef, undef, undef, undef, undef, undef, .bool false, .bool false].getD j undef) X (Below.drew (Below.refl _ _)) ?step ⟨#[.slice (some ⟨g, o, none⟩) pn cap, .agg #[.int .i64 k, .int .i64 n1, .int .i64 n2], undef, .pointer (some ⟨x0.heap.size, 0, none⟩), .bool false, .pointer (some ⟨x0.heap.size, 0, none⟩), .int .i64 k, .slice (some ⟨g, o, none⟩) pn cap, .int .i64 pn, .int .i64 ((pn : Int) - 1), .bool true, .bool true, .pointer (some ⟨x0.heap.size, 1, none⟩), .int .i64 n1, .slice (some ⟨g, o, none⟩) pn cap, .pointer (some ⟨x0.heap.size, 0, none⟩), .int .i64 k, .pointer (some ⟨g, o + k, none⟩), .pointer (some ⟨g, o + k, none⟩), .slice pk cl ck, .int .i64 cl, .int .i64 ((cl : Int) - 1), .bool false, .bool false, .bool false, undef, undef, undef, .bool false, .bool false, undef, undef, undef, undef, undef, undef, undef, undef, undef, undef, undef, undef, undef, undef, .bool false], []⟩ (by kernel_rfl) ?fin
      case step =>
        intro i o ho ρ y x hBx hdep hout
        rcases i with _ | i
        · obtain rfl := Option.some.inj ho
          have o3 : ρ (.tmp 3) = .pointer (some ⟨x0.heap.size, 0, none⟩) := hout (.tmp 3) rfl
          have ocn : ∀ v, ρ (.const v) = v := fun v => hout (.const v) rfl
          have ofn : ∀ f, ρ (.func f) = .func (.func f) #[] #[] := fun f => hout (.func f) rfl
          clear hdep hout
          refine .inl ⟨?_, ?_⟩
          · rfl
          show Gives _ _ _ (.pointer (some ⟨x0.heap.size, 0, none⟩)) _
          refine Gives.val ?_
          go_simp
        rcases i with _ | i
        · obtain rfl := Option.some.inj ho
          have e0 : ρ (.tmp 5) = .pointer (some ⟨x0.heap.size, 0, none⟩) := (hdep ⟨0, .data⟩ (by simp) rfl).1 5 rfl
          have ocn : ∀ v, ρ (.const v) = v := fun v => hout (.const v) rfl
          have ofn : ∀ f, ρ (.func f) = .func (.func f) #[] #[] := fun f => hout (.func f) rfl
          clear hdep hout
          refine .inl ⟨?_, ?_⟩
          · rfl
          have kb := K00.out.later hBx
          have c0 := kb.c 0 _ rfl
          have c1 := kb.c 1 _ rfl
          have c2 := kb.c 2 _ rfl
          have cl0 := kb.lt
          show Gives _ _ _ (.int .i64 k) _
          refine Gives.val ?_
          go_simp
        rcases i with _ | i
        · obtain rfl := Option.some.inj ho
          have o0 : ρ (.tmp 0) = .slice (some ⟨g, o, none⟩) pn cap := hout (.tmp 0) rfl
          have ocn : ∀ v, ρ (.const v) = v := fun v => hout (.const v) rfl
          have ofn : ∀ f, ρ (.func f) = .func (.func f) #[] #[] := fun f => hout (.func f) rfl
          clear hdep hout
          refine .inl ⟨?_, ?_⟩
          · rfl
          show Gives _ _ _ (.slice (some ⟨g, o, none⟩) pn cap) _
          refine Gives.val ?_
          go_simp
        rcases i with _ | i
        · obtain rfl := Option.some.inj ho
          have e2 : ρ (.tmp 7) = .slice (some ⟨g, o, none⟩) pn cap := (hdep ⟨2, .data⟩ (by simp) rfl).1 7 rfl
          have ocn : ∀ v, ρ (.const v) = v := fun v => hout (.const v) rfl
          have ofn : ∀ f, ρ (.func f) = .func (.func f) #[] #[] := fun f => hout (.func f) rfl
          clear hdep hout
          refine .inl ⟨?_, ?_⟩
          · rfl
          show Gives _ _ _ (.int .i64 pn) _
          refine Gives.val ?_
          go_simp
        rcases i with _ | i
        · obtain rfl := Option.some.inj ho
          have e3 : ρ (.tmp 8) = .int .i64 pn := (hdep ⟨3, .data⟩ (by simp) rfl).1 8 rfl
          have ocn : ∀ v, ρ (.const v) = v := fun v => hout (.const v) rfl
          have ofn : ∀ f, ρ (.func f) = .func (.func f) #[] #[] := fun f => hout (.func f) rfl
          clear hdep hout
          refine .inl ⟨?_, ?_⟩
          · rfl
          show Gives _ _ _ (.int .i64 ((pn : Int) - 1)) _
          refine Gives.val ?_
          (go_simp; exact IntWalk.i64_in _ (by omega))
        rcases i with _ | i
        · obtain rfl := Option.some.inj ho
          have e1 : ρ (.tmp 6) = .int .i64 k := (hdep ⟨1, .data⟩ (by simp) rfl).1 6 rfl
          have e4 : ρ (.tmp 9) = .int .i64 ((pn : Int) - 1) := (hdep ⟨4, .data⟩ (by simp) rfl).1 9 rfl
          have ocn : ∀ v, ρ (.const v) = v := fun v => hout (.const v) rfl
          have ofn : ∀ f, ρ (.func f) = .func (.func f) #[] #[] := fun f => hout (.func f) rfl
          clear hdep hout
          refine .inl ⟨?_, ?_⟩
          · rfl
          show Gives _ _ _ (.bool true) _
          refine Gives.call (l6In_b k 0 ((pn : Int) - 1) true g1 x) ?_
          go_simp
        rcases i with _ | i
        · obtain rfl := Option.some.inj ho
          have e5 : ρ (.tmp 10) = .bool true := (hdep ⟨5, .data⟩ (by simp) rfl).1 10 rfl
          have ocn : ∀ v, ρ (.const v) = v := fun v => hout (.const v) rfl
          have ofn : ∀ f, ρ (.func f) = .func (.func f) #[] #[] := fun f => hout (.func f) rfl
          clear hdep hout
          refine .inl ⟨?_, ?_⟩
          · rfl
          show Gives _ _ _ (.bool true) _
          refine Gives.val ?_
          go_simp
        rcases i with _ | i
        · obtain rfl := Option.some.inj ho
          have o3 : ρ (.tmp 3) = .pointer (some ⟨x0.heap.size, 0, none⟩) := hout (.tmp 3) rfl
          have yg : y 6 = some true := (hdep ⟨6, .guard⟩ (by simp) rfl).2 11 rfl
          have ocn : ∀ v, ρ (.const v) = v := fun v => hout (.const v) rfl
          have ofn : ∀ f, ρ (.func f) = .func (.func f) #[] #[] := fun f => hout (.func f) rfl
          clear hdep hout
          refine .inl ⟨?_, ?_⟩
          · show (y 6 == some true) = true
            rw [yg]; rfl
          show Gives _ _ _ (.pointer (some ⟨x0.heap.size, 1, none⟩)) _
          refine Gives.val ?_
          go_simp
        rcases i with _ | i
        · obtain rfl := Option.some.inj ho
          have e7 : ρ (.tmp 12) = .pointer (some ⟨x0.heap.size, 1, none⟩) := (hdep ⟨7, .data⟩ (by simp) rfl).1 12 rfl
          have yg : y 6 = some true := (hdep ⟨6, .guard⟩ (by simp) rfl).2 11 rfl
          have ocn : ∀ v, ρ (.const v) = v := fun v => hout (.const v) rfl
          have ofn : ∀ f, ρ (.func f) = .func (.func f) #[] #[] := fun f => hout (.func f) rfl
          clear hdep hout
          refine .inl ⟨?_, ?_⟩
          · show (y 6 == some true) = true
            rw [yg]; rfl
          have kb := K00.out.later hBx
          have c0 := kb.c 0 _ rfl
          have c1 := kb.c 1 _ rfl
          have c2 := kb.c 2 _ rfl
          have cl0 := kb.lt
          show Gives _ _ _ (.int .i64 n1) _
          refine Gives.val ?_
          go_simp
        rcases i with _ | i
        · obtain rfl := Option.some.inj ho
          have o0 : ρ (.tmp 0) = .slice (some ⟨g, o, none⟩) pn cap := hout (.tmp 0) rfl
          have yg : y 6 = some true := (hdep ⟨6, .guard⟩ (by simp) rfl).2 11 rfl
          have ocn : ∀ v, ρ (.const v) = v := fun v => hout (.const v) rfl
          have ofn : ∀ f, ρ (.func f) = .func (.func f) #[] #[] := fun f => hout (.func f) rfl
          clear hdep hout
          refine .inl ⟨?_, ?_⟩
          · show (y 6 == some true) = true
            rw [yg]; rfl
          show Gives _ _ _ (.slice (some ⟨g, o, none⟩) pn cap) _
          refine Gives.val ?_
          go_simp
        rcases i with _ | i
        · obtain rfl := Option.some.inj ho
          have o3 : ρ (.tmp 3) = .pointer (some ⟨x0.heap.size, 0, none⟩) := hout (.tmp 3) rfl
          have yg : y 6 = some true := (hdep ⟨6, .guard⟩ (by simp) rfl).2 11 rfl
          have ocn : ∀ v, ρ (.const v) = v := fun v => hout (.const v) rfl
          have ofn : ∀ f, ρ (.func f) = .func (.func f) #[] #[] := fun f => hout (.func f) rfl
          clear hdep hout
          refine .inl ⟨?_, ?_⟩
          · show (y 6 == some true) = true
            rw [yg]; rfl
          show Gives _ _ _ (.pointer (some ⟨x0.heap.size, 0, none⟩)) _
          refine Gives.val ?_
          go_simp
        rcases i with _ | i
        · obtain rfl := Option.some.inj ho
          have e10 : ρ (.tmp 15) = .pointer (some ⟨x0.heap.size, 0, none⟩) := (hdep ⟨10, .data⟩ (by simp) rfl).1 15 rfl
          have yg : y 6 = some true := (hdep ⟨6, .guard⟩ (by simp) rfl).2 11 rfl
          have ocn : ∀ v, ρ (.const v) = v := fun v => hout (.const v) rfl
          have ofn : ∀ f, ρ (.func f) = .func (.func f) #[] #[] := fun f => hout (.func f) rfl
          clear hdep hout
          refine .inl ⟨?_, ?_⟩
          · show (y 6 == some true) = true
            rw [yg]; rfl
          have kb := K00.out.later hBx
          have c0 := kb.c 0 _ rfl
          have c1 := kb.c 1 _ rfl
          have c2 := kb.c 2 _ rfl
          have cl0 := kb.lt
          show Gives _ _ _ (.int .i64 k) _
          refine Gives.val ?_
          go_simp
        rcases i with _ | i
        · obtain rfl := Option.some.inj ho
          have e9 : ρ (.tmp 14) = .slice (some ⟨g, o, none⟩) pn cap := (hdep ⟨9, .data⟩ (by simp) rfl).1 14 rfl
          have e11 : ρ (.tmp 16) = .int .i64 k := (hdep ⟨11, .data⟩ (by simp) rfl).1 16 rfl
          have yg : y 6 = some true := (hdep ⟨6, .guard⟩ (by simp) rfl).2 11 rfl
          have ocn : ∀ v, ρ (.const v) = v := fun v => hout (.const v) rfl
          have ofn : ∀ f, ρ (.func f) = .func (.func f) #[] #[] := fun f => hout (.func f) rfl
          clear hdep hout
          refine .inl ⟨?_, ?_⟩
          · show (y 6 == some true) = true
            rw [yg]; rfl
          show Gives _ _ _ (.pointer (some ⟨g, o + k, none⟩)) _
          refine Gives.val ?_
          go_simp
        rcases i with _ | i
        · obtain rfl := Option.some.inj ho
          have e12 : ρ (.tmp 17) = .pointer (some ⟨g, o + k, none⟩) := (hdep ⟨12, .data⟩ (by simp) rfl).1 17 rfl
          have yg : y 6 = some true := (hdep ⟨6, .guard⟩ (by simp) rfl).2 11 rfl
          have ocn : ∀ v, ρ (.const v) = v := fun v => hout (.const v) rfl
          have ofn : ∀ f, ρ (.func f) = .func (.func f) #[] #[] := fun f => hout (.func f) rfl
          clear hdep hout
          refine .inl ⟨?_, ?_⟩
          · show (y 6 == some true) = true
            rw [yg]; rfl
          show Gives _ _ _ (.pointer (some ⟨g, o + k, none⟩)) _
          refine Gives.val ?_
          go_simp
        rcases i with _ | i
        · obtain rfl := Option.some.inj ho
          have e13 : ρ (.tmp 18) = .pointer (some ⟨g, o + k, none⟩) := (hdep ⟨13, .data⟩ (by simp) rfl).1 18 rfl
          have yg : y 6 = some true := (hdep ⟨6, .guard⟩ (by simp) rfl).2 11 rfl
          have ocn : ∀ v, ρ (.const v) = v := fun v => hout (.const v) rfl
          have ofn : ∀ f, ρ (.func f) = .func (.func f) #[] #[] := fun f => hout (.func f) rfl
          clear hdep hout
          refine .inl ⟨?_, ?_⟩
          · show (y 6 == some true) = true
            rw [yg]; rfl
          have hcu := ((HAl.out.trans (hBx.mono HAl.out.size)).cell (p := ⟨g, o + k, none⟩) hg).trans hu
          show Gives _ _ _ (.slice pk cl ck) _
          refine Gives.val ?_
          go_simp
        rcases i with _ | i
        · obtain rfl := Option.some.inj ho
          have e14 : ρ (.tmp 19) = .slice pk cl ck := (hdep ⟨14, .data⟩ (by simp) rfl).1 19 rfl
          have yg : y 6 = some true := (hdep ⟨6, .guard⟩ (by simp) rfl).2 11 rfl
          have ocn : ∀ v, ρ (.const v) = v := fun v => hout (.const v) rfl
          have ofn : ∀ f, ρ (.func f) = .func (.func f) #[] #[] := fun f => hout (.func f) rfl
          clear hdep hout
          refine .inl ⟨?_, ?_⟩
          · show (y 6 == some true) = true
            rw [yg]; rfl
          show Gives _ _ _ (.int .i64 cl) _
          refine Gives.val ?_
          go_simp
        rcases i with _ | i
        · obtain rfl := Option.some.inj ho
          have e15 : ρ (.tmp 20) = .int .i64 cl := (hdep ⟨15, .data⟩ (by simp) rfl).1 20 rfl
          have yg : y 6 = some true := (hdep ⟨6, .guard⟩ (by simp) rfl).2 11 rfl
          have ocn : ∀ v, ρ (.const v) = v := fun v => hout (.const v) rfl
          have ofn : ∀ f, ρ (.func f) = .func (.func f) #[] #[] := fun f => hout (.func f) rfl
          clear hdep hout
          refine .inl ⟨?_, ?_⟩
          · show (y 6 == some true) = true
            rw [yg]; rfl
          show Gives _ _ _ (.int .i64 ((cl : Int) - 1)) _
          refine Gives.val ?_
          (go_simp; exact IntWalk.i64_in _ (by omega))
        rcases i with _ | i
        · obtain rfl := Option.some.inj ho
          have e8 : ρ (.tmp 13) = .int .i64 n1 := (hdep ⟨8, .data⟩ (by simp) rfl).1 13 rfl
          have e16 : ρ (.tmp 21) = .int .i64 ((cl : Int) - 1) := (hdep ⟨16, .data⟩ (by simp) rfl).1 21 rfl
          have yg : y 6 = some true := (hdep ⟨6, .guard⟩ (by simp) rfl).2 11 rfl
          have ocn : ∀ v, ρ (.const v) = v := fun v => hout (.const v) rfl
          have ofn : ∀ f, ρ (.func f) = .func (.func f) #[] #[] := fun f => hout (.func f) rfl
          clear hdep hout
          refine .inl ⟨?_, ?_⟩
          · show (y 6 == some true) = true
            rw [yg]; rfl
          show Gives _ _ _ (.bool false) _
          refine Gives.call (l6In_b n1 0 ((cl : Int) - 1) false g2 x) ?_
          go_simp
        rcases i with _ | i
        · obtain rfl := Option.some.inj ho
          have e6 : ρ (.tmp 11) = .bool true := (hdep ⟨6, .data⟩ (by simp) rfl).1 11 rfl
          have e17 : ρ (.tmp 22) = .bool false := (hdep ⟨17, .data⟩ (by simp) rfl).1 22 rfl
          have ocn : ∀ v, ρ (.const v) = v := fun v => hout (.const v) rfl
          have ofn : ∀ f, ρ (.func f) = .func (.func f) #[] #[] := fun f => hout (.func f) rfl
          clear hdep hout
          refine .inl ⟨?_, ?_⟩
          · rfl
          show Gives _ _ _ (.bool false) _
          refine Gives.val ?_
          go_simp
        rcases i with _ | i
        · obtain rfl := Option.some.inj ho
          have e18 : ρ (.tmp 23) = .bool false := (hdep ⟨18, .data⟩ (by simp) rfl).1 23 rfl
          have ocn : ∀ v, ρ (.const v) = v := fun v => hout (.const v) rfl
          have ofn : ∀ f, ρ (.func f) = .func (.func f) #[] #[] := fun f => hout (.func f) rfl
          clear hdep hout
          refine .inl ⟨?_, ?_⟩
          · rfl
          show Gives _ _ _ (.bool false) _
          refine Gives.val ?_
          go_simp
        rcases i with _ | i
        · obtain rfl := Option.some.inj ho
          have o3 : ρ (.tmp 3) = .pointer (some ⟨x0.heap.size, 0, none⟩) := hout (.tmp 3) rfl
          have yg : y 19 = some false := (hdep ⟨19, .guard⟩ (by simp) rfl).2 24 rfl
          have ocn : ∀ v, ρ (.const v) = v := fun v => hout (.const v) rfl
          have ofn : ∀ f, ρ (.func f) = .func (.func f) #[] #[] := fun f => hout (.func f) rfl
          clear hdep hout
          refine .inr ⟨?_, rfl⟩
          show (y 19 == some true) = false
          rw [yg]; rfl
        rcases i with _ | i
        · obtain rfl := Option.some.inj ho
          have e20 : ρ (.tmp 25) = undef := (hdep ⟨20, .data⟩ (by simp) rfl).1 25 rfl
          have yg : y 19 = some false := (hdep ⟨19, .guard⟩ (by simp) rfl).2 24 rfl
          have ocn : ∀ v, ρ (.const v) = v := fun v => hout (.const v) rfl
          have ofn : ∀ f, ρ (.func f) = .func (.func f) #[] #[] := fun f => hout (.func f) rfl
          clear hdep hout
          refine .inr ⟨?_, rfl⟩
          show (y 19 == some true) = false
          rw [yg]; rfl
        rcases i with _ | i
        · obtain rfl := Option.some.inj ho
          have e21 : ρ (.tmp 26) = undef := (hdep ⟨21, .data⟩ (by simp) rfl).1 26 rfl
          have yg : y 19 = some false := (hdep ⟨19, .guard⟩ (by simp) rfl).2 24 rfl
          have ocn : ∀ v, ρ (.const v) = v := fun v => hout (.const v) rfl
          have ofn : ∀ f, ρ (.func f) = .func (.func f) #[] #[] := fun f => hout (.func f) rfl
          clear hdep hout
          refine .inr ⟨?_, rfl⟩
          show (y 19 == some true) = false
          rw [yg]; rfl
        rcases i with _ | i
        · obtain rfl := Option.some.inj ho
          have e19 : ρ (.tmp 24) = .bool false := (hdep ⟨19, .data⟩ (by simp) rfl).1 24 rfl
          have e22 : ρ (.tmp 27) = undef := (hdep ⟨22, .data⟩ (by simp) rfl).1 27 rfl
          have ocn : ∀ v, ρ (.const v) = v := fun v => hout (.const v) rfl
          have ofn : ∀ f, ρ (.func f) = .func (.func f) #[] #[] := fun f => hout (.func f) rfl
          clear hdep hout
          refine .inl ⟨?_, ?_⟩
          · rfl
          show Gives _ _ _ (.bool false) _
          refine Gives.val ?_
          go_simp
        rcases i with _ | i
        · obtain rfl := Option.some.inj ho
          have e23 : ρ (.tmp 28) = .bool false := (hdep ⟨23, .data⟩ (by simp) rfl).1 28 rfl
          have ocn : ∀ v, ρ (.const v) = v := fun v => hout (.const v) rfl
          have ofn : ∀ f, ρ (.func f) = .func (.func f) #[] #[] := fun f => hout (.func f) rfl
          clear hdep hout
          refine .inl ⟨?_, ?_⟩
          · rfl
          show Gives _ _ _ (.bool false) _
          refine Gives.val ?_
          go_simp
        rcases i with _ | i
        · obtain rfl := Option.some.inj ho
          have o0 : ρ (.tmp 0) = .slice (some ⟨g, o, none⟩) pn cap := hout (.tmp 0) rfl
          have yg : y 24 = some false := (hdep ⟨24, .guard⟩ (by simp) rfl).2 29 rfl
          have ocn : ∀ v, ρ (.const v) = v := fun v => hout (.const v) rfl
          have ofn : ∀ f, ρ (.func f) = .func (.func f) #[] #[] := fun f => hout (.func f) rfl
          clear hdep hout
          refine .inr ⟨?_, rfl⟩
          show (y 24 == some true) = false
          rw [yg]; rfl
        rcases i with _ | i
        · obtain rfl := Option.some.inj ho
          have o3 : ρ (.tmp 3) = .pointer (some ⟨x0.heap.size, 0, none⟩) := hout (.tmp 3) rfl
          have yg : y 24 = some false := (hdep ⟨24, .guard⟩ (by simp) rfl).2 29 rfl
          have ocn : ∀ v, ρ (.const v) = v := fun v => hout (.const v) rfl
          have ofn : ∀ f, ρ (.func f) = .func (.func f) #[] #[] := fun f => hout (.func f) rfl
          clear hdep hout
          refine .inr ⟨?_, rfl⟩
          show (y 24 == some true) = false
          rw [yg]; rfl
        rcases i with _ | i
        · obtain rfl := Option.some.inj ho
          have e26 : ρ (.tmp 31) = undef := (hdep ⟨26, .data⟩ (by simp) rfl).1 31 rfl
          have yg : y 24 = some false := (hdep ⟨24, .guard⟩ (by simp) rfl).2 29 rfl
          have ocn : ∀ v, ρ (.const v) = v := fun v => hout (.const v) rfl
          have ofn : ∀ f, ρ (.func f) = .func (.func f) #[] #[] := fun f => hout (.func f) rfl
          clear hdep hout
          refine .inr ⟨?_, rfl⟩
          show (y 24 == some true) = false
          rw [yg]; rfl
        rcases i with _ | i
        · obtain rfl := Option.some.inj ho
          have e25 : ρ (.tmp 30) = undef := (hdep ⟨25, .data⟩ (by simp) rfl).1 30 rfl
          have e27 : ρ (.tmp 32) = undef := (hdep ⟨27, .data⟩ (by simp) rfl).1 32 rfl
          have yg : y 24 = some false := (hdep ⟨24, .guard⟩ (by simp) rfl).2 29 rfl
          have ocn : ∀ v, ρ (.const v) = v := fun v => hout (.const v) rfl
          have ofn : ∀ f, ρ (.func f) = .func (.func f) #[] #[] := fun f => hout (.func f) rfl
          clear hdep hout
          refine .inr ⟨?_, rfl⟩
          show (y 24 == some true) = false
          rw [yg]; rfl
        rcases i with _ | i
        · obtain rfl := Option.some.inj ho
          have e28 : ρ (.tmp 33) = undef := (hdep ⟨28, .data⟩ (by simp) rfl).1 33 rfl
          have yg : y 24 = some false := (hdep ⟨24, .guard⟩ (by simp) rfl).2 29 rfl
          have ocn : ∀ v, ρ (.const v) = v := fun v => hout (.const v) rfl
          have ofn : ∀ f, ρ (.func f) = .func (.func f) #[] #[] := fun f => hout (.func f) rfl
          clear hdep hout
          refine .inr ⟨?_, rfl⟩
          show (y 24 == some true) = false
          rw [yg]; rfl
        rcases i with _ | i
        · obtain rfl := Option.some.inj ho
          have e29 : ρ (.tmp 34) = undef := (hdep ⟨29, .data⟩ (by simp) rfl).1 34 rfl
          have yg : y 24 = some false := (hdep ⟨24, .guard⟩ (by simp) rfl).2 29 rfl
          have ocn : ∀ v, ρ (.const v) = v := fun v => hout (.const v) rfl
          have ofn : ∀ f, ρ (.func f) = .func (.func f) #[] #[] := fun f => hout (.func f) rfl
          clear hdep hout
          refine .inr ⟨?_, rfl⟩
          show (y 24 == some true) = false
          rw [yg]; rfl
        rcases i with _ | i
        · obtain rfl := Option.some.inj ho
          have o3 : ρ (.tmp 3) = .pointer (some ⟨x0.heap.size, 0, none⟩) := hout (.tmp 3) rfl
          have yg : y 24 = some false := (hdep ⟨24, .guard⟩ (by simp) rfl).2 29 rfl
          have ocn : ∀ v, ρ (.const v) = v := fun v => hout (.const v) rfl
          have ofn : ∀ f, ρ (.func f) = .func (.func f) #[] #[] := fun f => hout (.func f) rfl
          clear hdep hout
          refine .inr ⟨?_, rfl⟩
          show (y 24 == some true) = false
          rw [yg]; rfl
        rcases i with _ | i
        · obtain rfl := Option.some.inj ho
          have e31 : ρ (.tmp 36) = undef := (hdep ⟨31, .data⟩ (by simp) rfl).1 36 rfl
          have yg : y 24 = some false := (hdep ⟨24, .guard⟩ (by simp) rfl).2 29 rfl
          have ocn : ∀ v, ρ (.const v) = v := fun v => hout (.const v) rfl
          have ofn : ∀ f, ρ (.func f) = .func (.func f) #[] #[] := fun f => hout (.func f) rfl
          clear hdep hout
          refine .inr ⟨?_, rfl⟩
          show (y 24 == some true) = false
          rw [yg]; rfl
        rcases i with _ | i
        · obtain rfl := Option.some.inj ho
          have e30 : ρ (.tmp 35) = undef := (hdep ⟨30, .data⟩ (by simp) rfl).1 35 rfl
          have e32 : ρ (.tmp 37) = undef := (hdep ⟨32, .data⟩ (by simp) rfl).1 37 rfl
          have yg : y 24 = some false := (hdep ⟨24, .guard⟩ (by simp) rfl).2 29 rfl
          have ocn : ∀ v, ρ (.const v) = v := fun v => hout (.const v) rfl
          have ofn : ∀ f, ρ (.func f) = .func (.func f) #[] #[] := fun f => hout (.func f) rfl
          clear hdep hout
          refine .inr ⟨?_, rfl⟩
          show (y 24 == some true) = false
          rw [yg]; rfl
        rcases i with _ | i
        · obtain rfl := Option.some.inj ho
          have e33 : ρ (.tmp 38) = undef := (hdep ⟨33, .data⟩ (by simp) rfl).1 38 rfl
          have yg : y 24 = some false := (hdep ⟨24, .guard⟩ (by simp) rfl).2 29 rfl
          have ocn : ∀ v, ρ (.const v) = v := fun v => hout (.const v) rfl
          have ofn : ∀ f, ρ (.func f) = .func (.func f) #[] #[] := fun f => hout (.func f) rfl
          clear hdep hout
          refine .inr ⟨?_, rfl⟩
          show (y 24 == some true) = false
          rw [yg]; rfl
        rcases i with _ | i
        · obtain rfl := Option.some.inj ho
          have e34 : ρ (.tmp 39) = undef := (hdep ⟨34, .data⟩ (by simp) rfl).1 39 rfl
          have yg : y 24 = some false := (hdep ⟨24, .guard⟩ (by simp) rfl).2 29 rfl
          have ocn : ∀ v, ρ (.const v) = v := fun v => hout (.const v) rfl
          have ofn : ∀ f, ρ (.func f) = .func (.func f) #[] #[] := fun f => hout (.func f) rfl
          clear hdep hout
          refine .inr ⟨?_, rfl⟩
          show (y 24 == some true) = false
          rw [yg]; rfl
        rcases i with _ | i
        · obtain rfl := Option.some.inj ho
          have o3 : ρ (.tmp 3) = .pointer (some ⟨x0.heap.size, 0, none⟩) := hout (.tmp 3) rfl
          have yg : y 24 = some false := (hdep ⟨24, .guard⟩ (by simp) rfl).2 29 rfl
          have ocn : ∀ v, ρ (.const v) = v := fun v => hout (.const v) rfl
          have ofn : ∀ f, ρ (.func f) = .func (.func f) #[] #[] := fun f => hout (.func f) rfl
          clear hdep hout
          refine .inr ⟨?_, rfl⟩
          show (y 24 == some true) = false
          rw [yg]; rfl
        rcases i with _ | i
        · obtain rfl := Option.some.inj ho
          have e36 : ρ (.tmp 41) = undef := (hdep ⟨36, .data⟩ (by simp) rfl).1 41 rfl
          have yg : y 24 = some false := (hdep ⟨24, .guard⟩ (by simp) rfl).2 29 rfl
          have ocn : ∀ v, ρ (.const v) = v := fun v => hout (.const v) rfl
          have ofn : ∀ f, ρ (.func f) = .func (.func f) #[] #[] := fun f => hout (.func f) rfl
          clear hdep hout
          refine .inr ⟨?_, rfl⟩
          show (y 24 == some true) = false
          rw [yg]; rfl
        rcases i with _ | i
        · obtain rfl := Option.some.inj ho
          have e35 : ρ (.tmp 40) = undef := (hdep ⟨35, .data⟩ (by simp) rfl).1 40 rfl
          have e37 : ρ (.tmp 42) = undef := (hdep ⟨37, .data⟩ (by simp) rfl).1 42 rfl
          have yg : y 24 = some false := (hdep ⟨24, .guard⟩ (by simp) rfl).2 29 rfl
          have ocn : ∀ v, ρ (.const v) = v := fun v => hout (.const v) rfl
          have ofn : ∀ f, ρ (.func f) = .func (.func f) #[] #[] := fun f => hout (.func f) rfl
          clear hdep hout
          refine .inr ⟨?_, rfl⟩
          show (y 24 == some true) = false
          rw [yg]; rfl
        rcases i with _ | i
        · obtain rfl := Option.some.inj ho
          have e24 : ρ (.tmp 29) = .bool false := (hdep ⟨24, .data⟩ (by simp) rfl).1 29 rfl
          have e38 : ρ (.tmp 43) = undef := (hdep ⟨38, .data⟩ (by simp) rfl).1 43 rfl
          have ocn : ∀ v, ρ (.const v) = v := fun v => hout (.const v) rfl
          have ofn : ∀ f, ρ (.func f) = .func (.func f) #[] #[] := fun f => hout (.func f) rfl
          clear hdep hout
          refine .inl ⟨?_, ?_⟩
          · rfl
          show Gives _ _ _ (.bool false) _
          refine Gives.val ?_
          go_simp
        rcases i with _ | i
        · obtain rfl := Option.some.inj ho
          have e39 : ρ (.tmp 44) = .bool false := (hdep ⟨39, .data⟩ (by simp) rfl).1 44 rfl
          have ocn : ∀ v, ρ (.const v) = v := fun v => hout (.const v) rfl
          have ofn : ∀ f, ρ (.func f) = .func (.func f) #[] #[] := fun f => hout (.func f) rfl
          clear hdep hout
          refine .inl ⟨?_, ?_⟩
          · rfl
          show Gives _ _ _ (.bool false) _
          refine Gives.val ?_
          go_simp
        cases ho
      case fin =>
        intro x hBx
        have hBf := HAl.out.trans (hBx.mono HAl.out.size)
        go_wp2_with fail
        go_ret
        exact ⟨retBool (by rw [HFr2.out, g2]; rfl), hBf⟩
    · obtain ⟨a, rfl⟩ : ∃ a : Nat, n1 = a := ⟨n1.toNat, by simp only [inI, Bool.and_eq_true, decide_eq_true_eq] at g2; omega⟩
      have ha' : a < (P.getD k []).length := by simp only [inI, Bool.and_eq_true, decide_eq_true_eq] at g2; omega
      have hins := HCO.out.2 a ha'
      have hkk := insOkF_kind hins
      obtain ⟨gi, o2, hp2, hg2, hI⟩ := HC.out.ins ha'
      subst hp2
      have HFr3 : Hid (FF = (!decide (n2 = 0) && decide (faultF ((P.getD k []).getD a i0) = n2))) := by
        show FF = _
        rw [HFr2.out, g2]; simp
      obtain ⟨q0, q1, q2, q3⟩ := hI
      generalize (P.getD k []).getD a i0 = I at *
      have HFO : Hid (∀ z : World, Calls Try.prog 94 #[.agg #[.int .i64 I.1, .int .i64 I.2.1, .int .i64 I.2.2.1, .int .i64 I.2.2.2]] z fun e y => e = .returned (.int .i64 (faultF I)) ∧ Below z.heap.size z y) := fun z => l3May_any I hkk.1 hkk.2.1 z
      have hai : (a : Int) < ((P.getD k []).length : Int) := by omega
      clear HCO HC HFr2 hins hkk
      generalize (P.getD k []).length = cl at *
      generalize P.length = pn at *
      by_cases h5 : n2 = 0
      · subst h5
        go_enter Try.func74, Try.ntmps74
        go_wp2_with fail
        generalize x0.alloc (.cells #[.int .i64 k, .int .i64 a, .int .i64 0] 54) = X at HAl K00 ⊢
        refine wp_region_vals (by kernel_rfl) (by kernel_rfl) (by kernel_rfl) (by kernel_rfl) (fun j => [.pointer (some ⟨x0.heap.size, 0, none⟩), .int .i64 k, .slice (some ⟨g, o, none⟩) pn cap, .int .i64 pn, .int .i64 ((pn : Int) - 1), .bool true, .bool true, .pointer (some ⟨x0.heap.size, 1, none⟩), .int .i64 a, .slice (some ⟨g, o, none⟩) pn cap, .pointer (some ⟨x0.heap.size, 0, none⟩), .int .i64 k, .pointer (some ⟨g, o + k, none⟩), .pointer (some ⟨g, o + k, none⟩), .slice (some ⟨gi, o2, none⟩) cl ck, .int .i64 cl, .int .i64 ((cl : Int) - 1), .bool true, .bool true, .bool true, .pointer (some ⟨x0.heap.size, 2, none⟩), .int .i64 0, .bool false, .bool false, .bool false, undef, undef, undef, undef, undef, undef, undef, undef, undef, undef, undef, undef, undef, undef, .bool false, .bool false].getD j undef) X (Below.drew (Below.refl _ _)) ?step ⟨#[.slice (some ⟨g, o, none⟩) pn cap, .agg #[.int .i64 k, .int .i64 a, .int .i64 0], undef, .pointer (some ⟨x0.heap.size, 0, none⟩), .bool false, .pointer (some ⟨x0.heap.size, 0, none⟩), .int .i64 k, .slice (some ⟨g, o, none⟩) pn cap, .int .i64 pn, .int .i64 ((pn : Int) - 1), .bool true, .bool true, .pointer (some ⟨x0.heap.size, 1, none⟩), .int .i64 a, .slice (some ⟨g, o, none⟩) pn cap, .pointer (some ⟨x0.heap.size, 0, none⟩), .int .i64 k, .pointer (some ⟨g, o + k, none⟩), .pointer (some ⟨g, o + k, none⟩), .slice (some ⟨gi, o2, none⟩) cl ck, .int .i64 cl, .int .i64 ((cl : Int) - 1), .bool true, .bool true, .bool true, .pointer (some ⟨x0.heap.size, 2, none⟩), .int .i64 0, .bool false, .bool false, .bool false, undef, undef, undef, undef, undef, undef, undef, undef, undef, undef, undef, undef, undef, undef, .bool false], []⟩ (by kernel_rfl) ?fin
        case step =>
          intro i o ho ρ y x hBx hdep hout
          rcases i with _ | i
          · obtain rfl := Option.some.inj ho
            have o3 : ρ (.tmp 3) = .pointer (some ⟨x0.heap.size, 0, none⟩) := hout (.tmp 3) rfl
            have ocn : ∀ v, ρ (.const v) = v := fun v => hout (.const v) rfl
            have ofn : ∀ f, ρ (.func f) = .func (.func f) #[] #[] := fun f => hout (.func f) rfl
            clear hdep hout
            refine .inl ⟨?_, ?_⟩
            · rfl
            show Gives _ _ _ (.pointer (some ⟨x0.heap.size, 0, none⟩)) _
            refine Gives.val ?_
            go_simp
          rcases i with _ | i
          · obtain rfl := Option.some.inj ho
            have e0 : ρ (.tmp 5) = .pointer (some ⟨x0.heap.size, 0, none⟩) := (hdep ⟨0, .data⟩ (by simp) rfl).1 5 rfl
            have ocn : ∀ v, ρ (.const v) = v := fun v => hout (.const v) rfl
            have ofn : ∀ f, ρ (.func f) = .func (.func f) #[] #[] := fun f => hout (.func f) rfl
            clear hdep hout
            refine .inl ⟨?_, ?_⟩
            · rfl
            have kb := K00.out.later hBx
            have c0 := kb.c 0 _ rfl
            have c1 := kb.c 1 _ rfl
            have c2 := kb.c 2 _ rfl
            have cl0 := kb.lt
            show Gives _ _ _ (.int .i64 k) _
            refine Gives.val ?_
            go_simp
          rcases i with _ | i
          · obtain rfl := Option.some.inj ho
            have o0 : ρ (.tmp 0) = .slice (some ⟨g, o, none⟩) pn cap := hout (.tmp 0) rfl
            have ocn : ∀ v, ρ (.const v) = v := fun v => hout (.const v) rfl
            have ofn : ∀ f, ρ (.func f) = .func (.func f) #[] #[] := fun f => hout (.func f) rfl
            clear hdep hout
            refine .inl ⟨?_, ?_⟩
            · rfl
            show Gives _ _ _ (.slice (some ⟨g, o, none⟩) pn cap) _
            refine Gives.val ?_
            go_simp
          rcases i with _ | i
          · obtain rfl := Option.some.inj ho
            have e2 : ρ (.tmp 7) = .slice (some ⟨g, o, none⟩) pn cap := (hdep ⟨2, .data⟩ (by simp) rfl).1 7 rfl
            have ocn : ∀ v, ρ (.const v) = v := fun v => hout (.const v) rfl
            have ofn : ∀ f, ρ (.func f) = .func (.func f) #[] #[] := fun f => hout (.func f) rfl
            clear hdep hout
            refine .inl ⟨?_, ?_⟩
            · rfl
            show Gives _ _ _ (.int .i64 pn) _
            refine Gives.val ?_
            go_simp
          rcases i with _ | i
          · obtain rfl := Option.some.inj ho
            have e3 : ρ (.tmp 8) = .int .i64 pn := (hdep ⟨3, .data⟩ (by simp) rfl).1 8 rfl
            have ocn : ∀ v, ρ (.const v) = v := fun v => hout (.const v) rfl
            have ofn : ∀ f, ρ (.func f) = .func (.func f) #[] #[] := fun f => hout (.func f) rfl
            clear hdep hout
            refine .inl ⟨?_, ?_⟩
            · rfl
            show Gives _ _ _ (.int .i64 ((pn : Int) - 1)) _
            refine Gives.val ?_
            (go_simp; exact IntWalk.i64_in _ (by omega))
          rcases i with _ | i
          · obtain rfl := Option.some.inj ho
            have e1 : ρ (.tmp 6) = .int .i64 k := (hdep ⟨1, .data⟩ (by simp) rfl).1 6 rfl
            have e4 : ρ (.tmp 9) = .int .i64 ((pn : Int) - 1) := (hdep ⟨4, .data⟩ (by simp) rfl).1 9 rfl
            have ocn : ∀ v, ρ (.const v) = v := fun v => hout (.const v) rfl
            have ofn : ∀ f, ρ (.func f) = .func (.func f) #[] #[] := fun f => hout (.func f) rfl
            clear hdep hout
            refine .inl ⟨?_, ?_⟩
            · rfl
            show Gives _ _ _ (.bool true) _
            refine Gives.call (l6In_b k 0 ((pn : Int) - 1) true g1 x) ?_
            go_simp
          rcases i with _ | i
          · obtain rfl := Option.some.inj ho
            have e5 : ρ (.tmp 10) = .bool true := (hdep ⟨5, .data⟩ (by simp) rfl).1 10 rfl
            have ocn : ∀ v, ρ (.const v) = v := fun v => hout (.const v) rfl
            have ofn : ∀ f, ρ (.func f) = .func (.func f) #[] #[] := fun f => hout (.func f) rfl
            clear hdep hout
            refine .inl ⟨?_, ?_⟩
            · rfl
            show Gives _ _ _ (.bool true) _
            refine Gives.val ?_
            go_simp
          rcases i with _ | i
          · obtain rfl := Option.some.inj ho
            have o3 : ρ (.tmp 3) = .pointer (some ⟨x0.heap.size, 0, none⟩) := hout (.tmp 3) rfl
            have yg : y 6 = some true := (hdep ⟨6, .guard⟩ (by simp) rfl).2 11 rfl
            have ocn : ∀ v, ρ (.const v) = v := fun v => hout (.const v) rfl
            have ofn : ∀ f, ρ (.func f) = .func (.func f) #[] #[] := fun f => hout (.func f) rfl
            clear hdep hout
            refine .inl ⟨?_, ?_⟩
            · show (y 6 == some true) = true
              rw [yg]; rfl
            show Gives _ _ _ (.pointer (some ⟨x0.heap.size, 1, none⟩)) _
            refine Gives.val ?_
            go_simp
          rcases i with _ | i
          · obtain rfl := Option.some.inj ho
            have e7 : ρ (.tmp 12) = .pointer (some ⟨x0.heap.size, 1, none⟩) := (hdep ⟨7, .data⟩ (by simp) rfl).1 12 rfl
            have yg : y 6 = some true := (hdep ⟨6, .guard⟩ (by simp) rfl).2 11 rfl
            have ocn : ∀ v, ρ (.const v) = v := fun v => hout (.const v) rfl
            have ofn : ∀ f, ρ (.func f) = .func (.func f) #[] #[] := fun f => hout (.func f) rfl
            clear hdep hout
            refine .inl ⟨?_, ?_⟩
            · show (y 6 == some true) = true
              rw [yg]; rfl
            have kb := K00.out.later hBx
            have c0 := kb.c 0 _ rfl
            have c1 := kb.c 1 _ rfl
            have c2 := kb.c 2 _ rfl
            have cl0 := kb.lt
            show Gives _ _ _ (.int .i64 a) _
            refine Gives.val ?_
            go_simp
          rcases i with _ | i
          · obtain rfl := Option.some.inj ho
            have o0 : ρ (.tmp 0) = .slice (some ⟨g, o, none⟩) pn cap := hout (.tmp 0) rfl
            have yg : y 6 = some true := (hdep ⟨6, .guard⟩ (by simp) rfl).2 11 rfl
            have ocn : ∀ v, ρ (.const v) = v := fun v => hout (.const v) rfl
            have ofn : ∀ f, ρ (.func f) = .func (.func f) #[] #[] := fun f => hout (.func f) rfl
            clear hdep hout
            refine .inl ⟨?_, ?_⟩
            · show (y 6 == some true) = true
              rw [yg]; rfl
            show Gives _ _ _ (.slice (some ⟨g, o, none⟩) pn cap) _
            refine Gives.val ?_
            go_simp
          rcases i with _ | i
          · obtain rfl := Option.some.inj ho
            have o3 : ρ (.tmp 3) = .pointer (some ⟨x0.heap.size, 0, none⟩) := hout (.tmp 3) rfl
            have yg : y 6 = some true := (hdep ⟨6, .guard⟩ (by simp) rfl).2 11 rfl
            have ocn : ∀ v, ρ (.const v) = v := fun v => hout (.const v) rfl
            have ofn : ∀ f, ρ (.func f) = .func (.func f) #[] #[] := fun f => hout (.func f) rfl
            clear hdep hout
            refine .inl ⟨?_, ?_⟩
            · show (y 6 == some true) = true
              rw [yg]; rfl
            show Gives _ _ _ (.pointer (some ⟨x0.heap.size, 0, none⟩)) _
            refine Gives.val ?_
            go_simp
          rcases i with _ | i
          · obtain rfl := Option.some.inj ho
            have e10 : ρ (.tmp 15) = .pointer (some ⟨x0.heap.size, 0, none⟩) := (hdep ⟨10, .data⟩ (by simp) rfl).1 15 rfl
            have yg : y 6 = some true := (hdep ⟨6, .guard⟩ (by simp) rfl).2 11 rfl
            have ocn : ∀ v, ρ (.const v) = v := fun v => hout (.const v) rfl
            have ofn : ∀ f, ρ (.func f) = .func (.func f) #[] #[] := fun f => hout (.func f) rfl
            clear hdep hout
            refine .inl ⟨?_, ?_⟩
            · show (y 6 == some true) = true
              rw [yg]; rfl
            have kb := K00.out.later hBx
            have c0 := kb.c 0 _ rfl
            have c1 := kb.c 1 _ rfl
            have c2 := kb.c 2 _ rfl
            have cl0 := kb.lt
            show Gives _ _ _ (.int .i64 k) _
            refine Gives.val ?_
            go_simp
          rcases i with _ | i
          · obtain rfl := Option.some.inj ho
            have e9 : ρ (.tmp 14) = .slice (some ⟨g, o, none⟩) pn cap := (hdep ⟨9, .data⟩ (by simp) rfl).1 14 rfl
            have e11 : ρ (.tmp 16) = .int .i64 k := (hdep ⟨11, .data⟩ (by simp) rfl).1 16 rfl
            have yg : y 6 = some true := (hdep ⟨6, .guard⟩ (by simp) rfl).2 11 rfl
            have ocn : ∀ v, ρ (.const v) = v := fun v => hout (.const v) rfl
            have ofn : ∀ f, ρ (.func f) = .func (.func f) #[] #[] := fun f => hout (.func f) rfl
            clear hdep hout
            refine .inl ⟨?_, ?_⟩
            · show (y 6 == some true) = true
              rw [yg]; rfl
            show Gives _ _ _ (.pointer (some ⟨g, o + k, none⟩)) _
            refine Gives.val ?_
            go_simp
          rcases i with _ | i
          · obtain rfl := Option.some.inj ho
            have e12 : ρ (.tmp 17) = .pointer (some ⟨g, o + k, none⟩) := (hdep ⟨12, .data⟩ (by simp) rfl).1 17 rfl
            have yg : y 6 = some true := (hdep ⟨6, .guard⟩ (by simp) rfl).2 11 rfl
            have ocn : ∀ v, ρ (.const v) = v := fun v => hout (.const v) rfl
            have ofn : ∀ f, ρ (.func f) = .func (.func f) #[] #[] := fun f => hout (.func f) rfl
            clear hdep hout
            refine .inl ⟨?_, ?_⟩
            · show (y 6 == some true) = true
              rw [yg]; rfl
            show Gives _ _ _ (.pointer (some ⟨g, o + k, none⟩)) _
            refine Gives.val ?_
            go_simp
          rcases i with _ | i
          · obtain rfl := Option.some.inj ho
            have e13 : ρ (.tmp 18) = .pointer (some ⟨g, o + k, none⟩) := (hdep ⟨13, .data⟩ (by simp) rfl).1 18 rfl
            have yg : y 6 = some true := (hdep ⟨6, .guard⟩ (by simp) rfl).2 11 rfl
            have ocn : ∀ v, ρ (.const v) = v := fun v => hout (.const v) rfl
            have ofn : ∀ f, ρ (.func f) = .func (.func f) #[] #[] := fun f => hout (.func f) rfl
            clear hdep hout
            refine .inl ⟨?_, ?_⟩
            · show (y 6 == some true) = true
              rw [yg]; rfl
            have hcu := ((HAl.out.trans (hBx.mono HAl.out.size)).cell (p := ⟨g, o + k, none⟩) hg).trans hu
            show Gives _ _ _ (.slice (some ⟨gi, o2, none⟩) cl ck) _
            refine Gives.val ?_
            go_simp
          rcases i with _ | i
          · obtain rfl := Option.some.inj ho
            have e14 : ρ (.tmp 19) = .slice (some ⟨gi, o2, none⟩) cl ck := (hdep ⟨14, .data⟩ (by simp) rfl).1 19 rfl
            have yg : y 6 = some true := (hdep ⟨6, .guard⟩ (by simp) rfl).2 11 rfl
            have ocn : ∀ v, ρ (.const v) = v := fun v => hout (.const v) rfl
            have ofn : ∀ f, ρ (.func f) = .func (.func f) #[] #[] := fun f => hout (.func f) rfl
            clear hdep hout
            refine .inl ⟨?_, ?_⟩
            · show (y 6 == some true) = true
              rw [yg]; rfl
            show Gives _ _ _ (.int .i64 cl) _
            refine Gives.val ?_
            go_simp
          rcases i with _ | i
          · obtain rfl := Option.some.inj ho
            have e15 : ρ (.tmp 20) = .int .i64 cl := (hdep ⟨15, .data⟩ (by simp) rfl).1 20 rfl
            have yg : y 6 = some true := (hdep ⟨6, .guard⟩ (by simp) rfl).2 11 rfl
            have ocn : ∀ v, ρ (.const v) = v := fun v => hout (.const v) rfl
            have ofn : ∀ f, ρ (.func f) = .func (.func f) #[] #[] := fun f => hout (.func f) rfl
            clear hdep hout
            refine .inl ⟨?_, ?_⟩
            · show (y 6 == some true) = true
              rw [yg]; rfl
            show Gives _ _ _ (.int .i64 ((cl : Int) - 1)) _
            refine Gives.val ?_
            (go_simp; exact IntWalk.i64_in _ (by omega))
          rcases i with _ | i
          · obtain rfl := Option.some.inj ho
            have e8 : ρ (.tmp 13) = .int .i64 a := (hdep ⟨8, .data⟩ (by simp) rfl).1 13 rfl
            have e16 : ρ (.tmp 21) = .int .i64 ((cl : Int) - 1) := (hdep ⟨16, .data⟩ (by simp) rfl).1 21 rfl
            have yg : y 6 = some true := (hdep ⟨6, .guard⟩ (by simp) rfl).2 11 rfl
            have ocn : ∀ v, ρ (.const v) = v := fun v => hout (.const v) rfl
            have ofn : ∀ f, ρ (.func f) = .func (.func f) #[] #[] := fun f => hout (.func f) rfl
            clear hdep hout
            refine .inl ⟨?_, ?_⟩
            · show (y 6 == some true) = true
              rw [yg]; rfl
            show Gives _ _ _ (.bool true) _
            refine Gives.call (l6In_b a 0 ((cl : Int) - 1) true g2 x) ?_
            go_simp
          rcases i with _ | i
          · obtain rfl := Option.some.inj ho
            have e6 : ρ (.tmp 11) = .bool true := (hdep ⟨6, .data⟩ (by simp) rfl).1 11 rfl
            have e17 : ρ (.tmp 22) = .bool true := (hdep ⟨17, .data⟩ (by simp) rfl).1 22 rfl
            have ocn : ∀ v, ρ (.const v) = v := fun v => hout (.const v) rfl
            have ofn : ∀ f, ρ (.func f) = .func (.func f) #[] #[] := fun f => hout (.func f) rfl
            clear hdep hout
            refine .inl ⟨?_, ?_⟩
            · rfl
            show Gives _ _ _ (.bool true) _
            refine Gives.val ?_
            go_simp
          rcases i with _ | i
          · obtain rfl := Option.some.inj ho
            have e18 : ρ (.tmp 23) = .bool true := (hdep ⟨18, .data⟩ (by simp) rfl).1 23 rfl
            have ocn : ∀ v, ρ (.const v) = v := fun v => hout (.const v) rfl
            have ofn : ∀ f, ρ (.func f) = .func (.func f) #[] #[] := fun f => hout (.func f) rfl
            clear hdep hout
            refine .inl ⟨?_, ?_⟩
            · rfl
            show Gives _ _ _ (.bool true) _
            refine Gives.val ?_
            go_simp
          rcases i with _ | i
          · obtain rfl := Option.some.inj ho
            have o3 : ρ (.tmp 3) = .pointer (some ⟨x0.heap.size, 0, none⟩) := hout (.tmp 3) rfl
            have yg : y 19 = some true := (hdep ⟨19, .guard⟩ (by simp) rfl).2 24 rfl
            have ocn : ∀ v, ρ (.const v) = v := fun v => hout (.const v) rfl
            have ofn : ∀ f, ρ (.func f) = .func (.func f) #[] #[] := fun f => hout (.func f) rfl
            clear hdep hout
            refine .inl ⟨?_, ?_⟩
            · show (y 19 == some true) = true
              rw [yg]; rfl
            show Gives _ _ _ (.pointer (some ⟨x0.heap.size, 2, none⟩)) _
            refine Gives.val ?_
            go_simp
          rcases i with _ | i
          · obtain rfl := Option.some.inj ho
            have e20 : ρ (.tmp 25) = .pointer (some ⟨x0.heap.size, 2, none⟩) := (hdep ⟨20, .data⟩ (by simp) rfl).1 25 rfl
            have yg : y 19 = some true := (hdep ⟨19, .guard⟩ (by simp) rfl).2 24 rfl
            have ocn : ∀ v, ρ (.const v) = v := fun v => hout (.const v) rfl
            have ofn : ∀ f, ρ (.func f) = .func (.func f) #[] #[] := fun f => hout (.func f) rfl
            clear hdep hout
            refine .inl ⟨?_, ?_⟩
            · show (y 19 == some true) = true
              rw [yg]; rfl
            have kb := K00.out.later hBx
            have c0 := kb.c 0 _ rfl
            have c1 := kb.c 1 _ rfl
            have c2 := kb.c 2 _ rfl
            have cl0 := kb.lt
            show Gives _ _ _ (.int .i64 0) _
            refine Gives.val ?_
            go_simp
          rcases i with _ | i
          · obtain rfl := Option.some.inj ho
            have e21 : ρ (.tmp 26) = .int .i64 0 := (hdep ⟨21, .data⟩ (by simp) rfl).1 26 rfl
            have yg : y 19 = some true := (hdep ⟨19, .guard⟩ (by simp) rfl).2 24 rfl
            have ocn : ∀ v, ρ (.const v) = v := fun v => hout (.const v) rfl
            have ofn : ∀ f, ρ (.func f) = .func (.func f) #[] #[] := fun f => hout (.func f) rfl
            clear hdep hout
            refine .inl ⟨?_, ?_⟩
            · show (y 19 == some true) = true
              rw [yg]; rfl
            show Gives _ _ _ (.bool false) _
            refine Gives.val ?_
            go_simp
          rcases i with _ | i
          · obtain rfl := Option.some.inj ho
            have e19 : ρ (.tmp 24) = .bool true := (hdep ⟨19, .data⟩ (by simp) rfl).1 24 rfl
            have e22 : ρ (.tmp 27) = .bool false := (hdep ⟨22, .data⟩ (by simp) rfl).1 27 rfl
            have ocn : ∀ v, ρ (.const v) = v := fun v => hout (.const v) rfl
            have ofn : ∀ f, ρ (.func f) = .func (.func f) #[] #[] := fun f => hout (.func f) rfl
            clear hdep hout
            refine .inl ⟨?_, ?_⟩
            · rfl
            show Gives _ _ _ (.bool false) _
            refine Gives.val ?_
            go_simp
          rcases i with _ | i
          · obtain rfl := Option.some.inj ho
            have e23 : ρ (.tmp 28) = .bool false := (hdep ⟨23, .data⟩ (by simp) rfl).1 28 rfl
            have ocn : ∀ v, ρ (.const v) = v := fun v => hout (.const v) rfl
            have ofn : ∀ f, ρ (.func f) = .func (.func f) #[] #[] := fun f => hout (.func f) rfl
            clear hdep hout
            refine .inl ⟨?_, ?_⟩
            · rfl
            show Gives _ _ _ (.bool false) _
            refine Gives.val ?_
            go_simp
          rcases i with _ | i
          · obtain rfl := Option.some.inj ho
            have o0 : ρ (.tmp 0) = .slice (some ⟨g, o, none⟩) pn cap := hout (.tmp 0) rfl
            have yg : y 24 = some false := (hdep ⟨24, .guard⟩ (by simp) rfl).2 29 rfl
            have ocn : ∀ v, ρ (.const v) = v := fun v => hout (.const v) rfl
            have ofn : ∀ f, ρ (.func f) = .func (.func f) #[] #[] := fun f => hout (.func f) rfl
            clear hdep hout
            refine .inr ⟨?_, rfl⟩
            show (y 24 == some true) = false
            rw [yg]; rfl
          rcases i with _ | i
          · obtain rfl := Option.some.inj ho
            have o3 : ρ (.tmp 3) = .pointer (some ⟨x0.heap.size, 0, none⟩) := hout (.tmp 3) rfl
            have yg : y 24 = some false := (hdep ⟨24, .guard⟩ (by simp) rfl).2 29 rfl
            have ocn : ∀ v, ρ (.const v) = v := fun v => hout (.const v) rfl
            have ofn : ∀ f, ρ (.func f) = .func (.func f) #[] #[] := fun f => hout (.func f) rfl
            clear hdep hout
            refine .inr ⟨?_, rfl⟩
            show (y 24 == some true) = false
            rw [yg]; rfl
          rcases i with _ | i
          · obtain rfl := Option.some.inj ho
            have e26 : ρ (.tmp 31) = undef := (hdep ⟨26, .data⟩ (by simp) rfl).1 31 rfl
            have yg : y 24 = some false := (hdep ⟨24, .guard⟩ (by simp) rfl).2 29 rfl
            have ocn : ∀ v, ρ (.const v) = v := fun v => hout (.const v) rfl
            have ofn : ∀ f, ρ (.func f) = .func (.func f) #[] #[] := fun f => hout (.func f) rfl
            clear hdep hout
            refine .inr ⟨?_, rfl⟩
            show (y 24 == some true) = false
            rw [yg]; rfl
          rcases i with _ | i
          · obtain rfl := Option.some.inj ho
            have e25 : ρ (.tmp 30) = undef := (hdep ⟨25, .data⟩ (by simp) rfl).1 30 rfl
            have e27 : ρ (.tmp 32) = undef := (hdep ⟨27, .data⟩ (by simp) rfl).1 32 rfl
            have yg : y 24 = some false := (hdep ⟨24, .guard⟩ (by simp) rfl).2 29 rfl
            have ocn : ∀ v, ρ (.const v) = v := fun v => hout (.const v) rfl
            have ofn : ∀ f, ρ (.func f) = .func (.func f) #[] #[] := fun f => hout (.func f) rfl
            clear hdep hout
            refine .inr ⟨?_, rfl⟩
            show (y 24 == some true) = false
            rw [yg]; rfl
          rcases i with _ | i
          · obtain rfl := Option.some.inj ho
            have e28 : ρ (.tmp 33) = undef := (hdep ⟨28, .data⟩ (by simp) rfl).1 33 rfl
            have yg : y 24 = some false := (hdep ⟨24, .guard⟩ (by simp) rfl).2 29 rfl
            have ocn : ∀ v, ρ (.const v) = v := fun v => hout (.const v) rfl
            have ofn : ∀ f, ρ (.func f) = .func (.func f) #[] #[] := fun f => hout (.func f) rfl
            clear hdep hout
            refine .inr ⟨?_, rfl⟩
            show (y 24 == some true) = false
            rw [yg]; rfl
          rcases i with _ | i
          · obtain rfl := Option.some.inj ho
            have e29 : ρ (.tmp 34) = undef := (hdep ⟨29, .data⟩ (by simp) rfl).1 34 rfl
            have yg : y 24 = some false := (hdep ⟨24, .guard⟩ (by simp) rfl).2 29 rfl
            have ocn : ∀ v, ρ (.const v) = v := fun v => hout (.const v) rfl
            have ofn : ∀ f, ρ (.func f) = .func (.func f) #[] #[] := fun f => hout (.func f) rfl
            clear hdep hout
            refine .inr ⟨?_, rfl⟩
            show (y 24 == some true) = false
            rw [yg]; rfl
          rcases i with _ | i
          · obtain rfl := Option.some.inj ho
            have o3 : ρ (.tmp 3) = .pointer (some ⟨x0.heap.size, 0, none⟩) := hout (.tmp 3) rfl
            have yg : y 24 = some false := (hdep ⟨24, .guard⟩ (by simp) rfl).2 29 rfl
            have ocn : ∀ v, ρ (.const v) = v := fun v => hout (.const v) rfl
            have ofn : ∀ f, ρ (.func f) = .func (.func f) #[] #[] := fun f => hout (.func f) rfl
            clear hdep hout
            refine .inr ⟨?_, rfl⟩
            show (y 24 == some true) = false
            rw [yg]; rfl
          rcases i with _ | i
          · obtain rfl := Option.some.inj ho
            have e31 : ρ (.tmp 36) = undef := (hdep ⟨31, .data⟩ (by simp) rfl).1 36 rfl
            have yg : y 24 = some false := (hdep ⟨24, .guard⟩ (by simp) rfl).2 29 rfl
            have ocn : ∀ v, ρ (.const v) = v := fun v => hout (.const v) rfl
            have ofn : ∀ f, ρ (.func f) = .func (.func f) #[] #[] := fun f => hout (.func f) rfl
            clear hdep hout
            refine .inr ⟨?_, rfl⟩
            show (y 24 == some true) = false
            rw [yg]; rfl
          rcases i with _ | i
          · obtain rfl := Option.some.inj ho
            have e30 : ρ (.tmp 35) = undef := (hdep ⟨30, .data⟩ (by simp) rfl).1 35 rfl
            have e32 : ρ (.tmp 37) = undef := (hdep ⟨32, .data⟩ (by simp) rfl).1 37 rfl
            have yg : y 24 = some false := (hdep ⟨24, .guard⟩ (by simp) rfl).2 29 rfl
            have ocn : ∀ v, ρ (.const v) = v := fun v => hout (.const v) rfl
            have ofn : ∀ f, ρ (.func f) = .func (.func f) #[] #[] := fun f => hout (.func f) rfl
            clear hdep hout
            refine .inr ⟨?_, rfl⟩
            show (y 24 == some true) = false
            rw [yg]; rfl
          rcases i with _ | i
          · obtain rfl := Option.some.inj ho
            have e33 : ρ (.tmp 38) = undef := (hdep ⟨33, .data⟩ (by simp) rfl).1 38 rfl
            have yg : y 24 = some false := (hdep ⟨24, .guard⟩ (by simp) rfl).2 29 rfl
            have ocn : ∀ v, ρ (.const v) = v := fun v => hout (.const v) rfl
            have ofn : ∀ f, ρ (.func f) = .func (.func f) #[] #[] := fun f => hout (.func f) rfl
            clear hdep hout
            refine .inr ⟨?_, rfl⟩
            show (y 24 == some true) = false
            rw [yg]; rfl
          rcases i with _ | i
          · obtain rfl := Option.some.inj ho
            have e34 : ρ (.tmp 39) = undef := (hdep ⟨34, .data⟩ (by simp) rfl).1 39 rfl
            have yg : y 24 = some false := (hdep ⟨24, .guard⟩ (by simp) rfl).2 29 rfl
            have ocn : ∀ v, ρ (.const v) = v := fun v => hout (.const v) rfl
            have ofn : ∀ f, ρ (.func f) = .func (.func f) #[] #[] := fun f => hout (.func f) rfl
            clear hdep hout
            refine .inr ⟨?_, rfl⟩
            show (y 24 == some true) = false
            rw [yg]; rfl
          rcases i with _ | i
          · obtain rfl := Option.some.inj ho
            have o3 : ρ (.tmp 3) = .pointer (some ⟨x0.heap.size, 0, none⟩) := hout (.tmp 3) rfl
            have yg : y 24 = some false := (hdep ⟨24, .guard⟩ (by simp) rfl).2 29 rfl
            have ocn : ∀ v, ρ (.const v) = v := fun v => hout (.const v) rfl
            have ofn : ∀ f, ρ (.func f) = .func (.func f) #[] #[] := fun f => hout (.func f) rfl
            clear hdep hout
            refine .inr ⟨?_, rfl⟩
            show (y 24 == some true) = false
            rw [yg]; rfl
          rcases i with _ | i
          · obtain rfl := Option.some.inj ho
            have e36 : ρ (.tmp 41) = undef := (hdep ⟨36, .data⟩ (by simp) rfl).1 41 rfl
            have yg : y 24 = some false := (hdep ⟨24, .guard⟩ (by simp) rfl).2 29 rfl
            have ocn : ∀ v, ρ (.const v) = v := fun v => hout (.const v) rfl
            have ofn : ∀ f, ρ (.func f) = .func (.func f) #[] #[] := fun f => hout (.func f) rfl
            clear hdep hout
            refine .inr ⟨?_, rfl⟩
            show (y 24 == some true) = false
            rw [yg]; rfl
          rcases i with _ | i
          · obtain rfl := Option.some.inj ho
            have e35 : ρ (.tmp 40) = undef := (hdep ⟨35, .data⟩ (by simp) rfl).1 40 rfl
            have e37 : ρ (.tmp 42) = undef := (hdep ⟨37, .data⟩ (by simp) rfl).1 42 rfl
            have yg : y 24 = some false := (hdep ⟨24, .guard⟩ (by simp) rfl).2 29 rfl
            have ocn : ∀ v, ρ (.const v) = v := fun v => hout (.const v) rfl
            have ofn : ∀ f, ρ (.func f) = .func (.func f) #[] #[] := fun f => hout (.func f) rfl
            clear hdep hout
            refine .inr ⟨?_, rfl⟩
            show (y 24 == some true) = false
            rw [yg]; rfl
          rcases i with _ | i
          · obtain rfl := Option.some.inj ho
            have e24 : ρ (.tmp 29) = .bool false := (hdep ⟨24, .data⟩ (by simp) rfl).1 29 rfl
            have e38 : ρ (.tmp 43) = undef := (hdep ⟨38, .data⟩ (by simp) rfl).1 43 rfl
            have ocn : ∀ v, ρ (.const v) = v := fun v => hout (.const v) rfl
            have ofn : ∀ f, ρ (.func f) = .func (.func f) #[] #[] := fun f => hout (.func f) rfl
            clear hdep hout
            refine .inl ⟨?_, ?_⟩
            · rfl
            show Gives _ _ _ (.bool false) _
            refine Gives.val ?_
            go_simp
          rcases i with _ | i
          · obtain rfl := Option.some.inj ho
            have e39 : ρ (.tmp 44) = .bool false := (hdep ⟨39, .data⟩ (by simp) rfl).1 44 rfl
            have ocn : ∀ v, ρ (.const v) = v := fun v => hout (.const v) rfl
            have ofn : ∀ f, ρ (.func f) = .func (.func f) #[] #[] := fun f => hout (.func f) rfl
            clear hdep hout
            refine .inl ⟨?_, ?_⟩
            · rfl
            show Gives _ _ _ (.bool false) _
            refine Gives.val ?_
            go_simp
          cases ho
        case fin =>
          intro x hBx
          have hBf := HAl.out.trans (hBx.mono HAl.out.size)
          go_wp2_with fail
          go_ret
          exact ⟨retBool (by rw [HFr3.out]; simp), hBf⟩
      · have h5n : (n2 != 0) = true := by simp [h5]
        go_enter Try.func74, Try.ntmps74
        go_wp2_with fail
        generalize x0.alloc (.cells #[.int .i64 k, .int .i64 a, .int .i64 n2] 54) = X at HAl K00 ⊢
        refine wp_region_vals (by kernel_rfl) (by kernel_rfl) (by kernel_rfl) (by kernel_rfl) (fun j => [.pointer (some ⟨x0.heap.size, 0, none⟩), .int .i64 k, .slice (some ⟨g, o, none⟩) pn cap, .int .i64 pn, .int .i64 ((pn : Int) - 1), .bool true, .bool true, .pointer (some ⟨x0.heap.size, 1, none⟩), .int .i64 a, .slice (some ⟨g, o, none⟩) pn cap, .pointer (some ⟨x0.heap.size, 0, none⟩), .int .i64 k, .pointer (some ⟨g, o + k, none⟩), .pointer (some ⟨g, o + k, none⟩), .slice (some ⟨gi, o2, none⟩) cl ck, .int .i64 cl, .int .i64 ((cl : Int) - 1), .bool true, .bool true, .bool true, .pointer (some ⟨x0.heap.size, 2, none⟩), .int .i64 n2, .bool true, .bool true, .bool true, .slice (some ⟨g, o, none⟩) pn cap, .pointer (some ⟨x0.heap.size, 0, none⟩), .int .i64 k, .pointer (some ⟨g, o + k, none⟩), .pointer (some ⟨g, o + k, none⟩), .slice (some ⟨gi, o2, none⟩) cl ck, .pointer (some ⟨x0.heap.size, 1, none⟩), .int .i64 a, .pointer (some ⟨gi, o2 + a * 4, none⟩), .agg #[.int .i64 I.1, .int .i64 I.2.1, .int .i64 I.2.2.1, .int .i64 I.2.2.2], .int .i64 (faultF I), .pointer (some ⟨x0.heap.size, 2, none⟩), .int .i64 n2, .bool (faultF I == n2), .bool (faultF I == n2), .bool (faultF I == n2)].getD j undef) X (Below.drew (Below.refl _ _)) ?step ⟨#[.slice (some ⟨g, o, none⟩) pn cap, .agg #[.int .i64 k, .int .i64 a, .int .i64 n2], undef, .pointer (some ⟨x0.heap.size, 0, none⟩), .bool (faultF I == n2), .pointer (some ⟨x0.heap.size, 0, none⟩), .int .i64 k, .slice (some ⟨g, o, none⟩) pn cap, .int .i64 pn, .int .i64 ((pn : Int) - 1), .bool true, .bool true, .pointer (some ⟨x0.heap.size, 1, none⟩), .int .i64 a, .slice (some ⟨g, o, none⟩) pn cap, .pointer (some ⟨x0.heap.size, 0, none⟩), .int .i64 k, .pointer (some ⟨g, o + k, none⟩), .pointer (some ⟨g, o + k, none⟩), .slice (some ⟨gi, o2, none⟩) cl ck, .int .i64 cl, .int .i64 ((cl : Int) - 1), .bool true, .bool true, .bool true, .pointer (some ⟨x0.heap.size, 2, none⟩), .int .i64 n2, .bool true, .bool true, .bool true, .slice (some ⟨g, o, none⟩) pn cap, .pointer (some ⟨x0.heap.size, 0, none⟩), .int .i64 k, .pointer (some ⟨g, o + k, none⟩), .pointer (some ⟨g, o + k, none⟩), .slice (some ⟨gi, o2, none⟩) cl ck, .pointer (some ⟨x0.heap.size, 1, none⟩), .int .i64 a, .pointer (some ⟨gi, o2 + a * 4, none⟩), .agg #[.int .i64 I.1, .int .i64 I.2.1, .int .i64 I.2.2.1, .int .i64 I.2.2.2], .int .i64 (faultF I), .pointer (some ⟨x0.heap.size, 2, none⟩), .int .i64 n2, .bool (faultF I == n2), .bool (faultF I == n2)], []⟩ (by kernel_rfl) ?fin
        case step =>
          intro i o ho ρ y x hBx hdep hout
          rcases i with _ | i
          · obtain rfl := Option.some.inj ho
            have o3 : ρ (.tmp 3) = .pointer (some ⟨x0.heap.size, 0, none⟩) := hout (.tmp 3) rfl
            have ocn : ∀ v, ρ (.const v) = v := fun v => hout (.const v) rfl
            have ofn : ∀ f, ρ (.func f) = .func (.func f) #[] #[] := fun f => hout (.func f) rfl
            clear hdep hout
            refine .inl ⟨?_, ?_⟩
            · rfl
            show Gives _ _ _ (.pointer (some ⟨x0.heap.size, 0, none⟩)) _
            refine Gives.val ?_
            go_simp
          rcases i with _ | i
          · obtain rfl := Option.some.inj ho
            have e0 : ρ (.tmp 5) = .pointer (some ⟨x0.heap.size, 0, none⟩) := (hdep ⟨0, .data⟩ (by simp) rfl).1 5 rfl
            have ocn : ∀ v, ρ (.const v) = v := fun v => hout (.const v) rfl
            have ofn : ∀ f, ρ (.func f) = .func (.func f) #[] #[] := fun f => hout (.func f) rfl
            clear hdep hout
            refine .inl ⟨?_, ?_⟩
            · rfl
            have kb := K00.out.later hBx
            have c0 := kb.c 0 _ rfl
            have c1 := kb.c 1 _ rfl
            have c2 := kb.c 2 _ rfl
            have cl0 := kb.lt
            show Gives _ _ _ (.int .i64 k) _
            refine Gives.val ?_
            go_simp
          rcases i with _ | i
          · obtain rfl := Option.some.inj ho
            have o0 : ρ (.tmp 0) = .slice (some ⟨g, o, none⟩) pn cap := hout (.tmp 0) rfl
            have ocn : ∀ v, ρ (.const v) = v := fun v => hout (.const v) rfl
            have ofn : ∀ f, ρ (.func f) = .func (.func f) #[] #[] := fun f => hout (.func f) rfl
            clear hdep hout
            refine .inl ⟨?_, ?_⟩
            · rfl
            show Gives _ _ _ (.slice (some ⟨g, o, none⟩) pn cap) _
            refine Gives.val ?_
            go_simp
          rcases i with _ | i
          · obtain rfl := Option.some.inj ho
            have e2 : ρ (.tmp 7) = .slice (some ⟨g, o, none⟩) pn cap := (hdep ⟨2, .data⟩ (by simp) rfl).1 7 rfl
            have ocn : ∀ v, ρ (.const v) = v := fun v => hout (.const v) rfl
            have ofn : ∀ f, ρ (.func f) = .func (.func f) #[] #[] := fun f => hout (.func f) rfl
            clear hdep hout
            refine .inl ⟨?_, ?_⟩
            · rfl
            show Gives _ _ _ (.int .i64 pn) _
            refine Gives.val ?_
            go_simp
          rcases i with _ | i
          · obtain rfl := Option.some.inj ho
            have e3 : ρ (.tmp 8) = .int .i64 pn := (hdep ⟨3, .data⟩ (by simp) rfl).1 8 rfl
            have ocn : ∀ v, ρ (.const v) = v := fun v => hout (.const v) rfl
            have ofn : ∀ f, ρ (.func f) = .func (.func f) #[] #[] := fun f => hout (.func f) rfl
            clear hdep hout
            refine .inl ⟨?_, ?_⟩
            · rfl
            show Gives _ _ _ (.int .i64 ((pn : Int) - 1)) _
            refine Gives.val ?_
            (go_simp; exact IntWalk.i64_in _ (by omega))
          rcases i with _ | i
          · obtain rfl := Option.some.inj ho
            have e1 : ρ (.tmp 6) = .int .i64 k := (hdep ⟨1, .data⟩ (by simp) rfl).1 6 rfl
            have e4 : ρ (.tmp 9) = .int .i64 ((pn : Int) - 1) := (hdep ⟨4, .data⟩ (by simp) rfl).1 9 rfl
            have ocn : ∀ v, ρ (.const v) = v := fun v => hout (.const v) rfl
            have ofn : ∀ f, ρ (.func f) = .func (.func f) #[] #[] := fun f => hout (.func f) rfl
            clear hdep hout
            refine .inl ⟨?_, ?_⟩
            · rfl
            show Gives _ _ _ (.bool true) _
            refine Gives.call (l6In_b k 0 ((pn : Int) - 1) true g1 x) ?_
            go_simp
          rcases i with _ | i
          · obtain rfl := Option.some.inj ho
            have e5 : ρ (.tmp 10) = .bool true := (hdep ⟨5, .data⟩ (by simp) rfl).1 10 rfl
            have ocn : ∀ v, ρ (.const v) = v := fun v => hout (.const v) rfl
            have ofn : ∀ f, ρ (.func f) = .func (.func f) #[] #[] := fun f => hout (.func f) rfl
            clear hdep hout
            refine .inl ⟨?_, ?_⟩
            · rfl
            show Gives _ _ _ (.bool true) _
            refine Gives.val ?_
            go_simp
          rcases i with _ | i
          · obtain rfl := Option.some.inj ho
            have o3 : ρ (.tmp 3) = .pointer (some ⟨x0.heap.size, 0, none⟩) := hout (.tmp 3) rfl
            have yg : y 6 = some true := (hdep ⟨6, .guard⟩ (by simp) rfl).2 11 rfl
            have ocn : ∀ v, ρ (.const v) = v := fun v => hout (.const v) rfl
            have ofn : ∀ f, ρ (.func f) = .func (.func f) #[] #[] := fun f => hout (.func f) rfl
            clear hdep hout
            refine .inl ⟨?_, ?_⟩
            · show (y 6 == some true) = true
              rw [yg]; rfl
            show Gives _ _ _ (.pointer (some ⟨x0.heap.size, 1, none⟩)) _
            refine Gives.val ?_
            go_simp
          rcases i with _ | i
          · obtain rfl := Option.some.inj ho
            have e7 : ρ (.tmp 12) = .pointer (some ⟨x0.heap.size, 1, none⟩) := (hdep ⟨7, .data⟩ (by simp) rfl).1 12 rfl
            have yg : y 6 = some true := (hdep ⟨6, .guard⟩ (by simp) rfl).2 11 rfl
            have ocn : ∀ v, ρ (.const v) = v := fun v => hout (.const v) rfl
            have ofn : ∀ f, ρ (.func f) = .func (.func f) #[] #[] := fun f => hout (.func f) rfl
            clear hdep hout
            refine .inl ⟨?_, ?_⟩
            · show (y 6 == some true) = true
              rw [yg]; rfl
            have kb := K00.out.later hBx
            have c0 := kb.c 0 _ rfl
            have c1 := kb.c 1 _ rfl
            have c2 := kb.c 2 _ rfl
            have cl0 := kb.lt
            show Gives _ _ _ (.int .i64 a) _
            refine Gives.val ?_
            go_simp
          rcases i with _ | i
          · obtain rfl := Option.some.inj ho
            have o0 : ρ (.tmp 0) = .slice (some ⟨g, o, none⟩) pn cap := hout (.tmp 0) rfl
            have yg : y 6 = some true := (hdep ⟨6, .guard⟩ (by simp) rfl).2 11 rfl
            have ocn : ∀ v, ρ (.const v) = v := fun v => hout (.const v) rfl
            have ofn : ∀ f, ρ (.func f) = .func (.func f) #[] #[] := fun f => hout (.func f) rfl
            clear hdep hout
            refine .inl ⟨?_, ?_⟩
            · show (y 6 == some true) = true
              rw [yg]; rfl
            show Gives _ _ _ (.slice (some ⟨g, o, none⟩) pn cap) _
            refine Gives.val ?_
            go_simp
          rcases i with _ | i
          · obtain rfl := Option.some.inj ho
            have o3 : ρ (.tmp 3) = .pointer (some ⟨x0.heap.size, 0, none⟩) := hout (.tmp 3) rfl
            have yg : y 6 = some true := (hdep ⟨6, .guard⟩ (by simp) rfl).2 11 rfl
            have ocn : ∀ v, ρ (.const v) = v := fun v => hout (.const v) rfl
            have ofn : ∀ f, ρ (.func f) = .func (.func f) #[] #[] := fun f => hout (.func f) rfl
            clear hdep hout
            refine .inl ⟨?_, ?_⟩
            · show (y 6 == some true) = true
              rw [yg]; rfl
            show Gives _ _ _ (.pointer (some ⟨x0.heap.size, 0, none⟩)) _
            refine Gives.val ?_
            go_simp
          rcases i with _ | i
          · obtain rfl := Option.some.inj ho
            have e10 : ρ (.tmp 15) = .pointer (some ⟨x0.heap.size, 0, none⟩) := (hdep ⟨10, .data⟩ (by simp) rfl).1 15 rfl
            have yg : y 6 = some true := (hdep ⟨6, .guard⟩ (by simp) rfl).2 11 rfl
            have ocn : ∀ v, ρ (.const v) = v := fun v => hout (.const v) rfl
            have ofn : ∀ f, ρ (.func f) = .func (.func f) #[] #[] := fun f => hout (.func f) rfl
            clear hdep hout
            refine .inl ⟨?_, ?_⟩
            · show (y 6 == some true) = true
              rw [yg]; rfl
            have kb := K00.out.later hBx
            have c0 := kb.c 0 _ rfl
            have c1 := kb.c 1 _ rfl
            have c2 := kb.c 2 _ rfl
            have cl0 := kb.lt
            show Gives _ _ _ (.int .i64 k) _
            refine Gives.val ?_
            go_simp
          rcases i with _ | i
          · obtain rfl := Option.some.inj ho
            have e9 : ρ (.tmp 14) = .slice (some ⟨g, o, none⟩) pn cap := (hdep ⟨9, .data⟩ (by simp) rfl).1 14 rfl
            have e11 : ρ (.tmp 16) = .int .i64 k := (hdep ⟨11, .data⟩ (by simp) rfl).1 16 rfl
            have yg : y 6 = some true := (hdep ⟨6, .guard⟩ (by simp) rfl).2 11 rfl
            have ocn : ∀ v, ρ (.const v) = v := fun v => hout (.const v) rfl
            have ofn : ∀ f, ρ (.func f) = .func (.func f) #[] #[] := fun f => hout (.func f) rfl
            clear hdep hout
            refine .inl ⟨?_, ?_⟩
            · show (y 6 == some true) = true
              rw [yg]; rfl
            show Gives _ _ _ (.pointer (some ⟨g, o + k, none⟩)) _
            refine Gives.val ?_
            go_simp
          rcases i with _ | i
          · obtain rfl := Option.some.inj ho
            have e12 : ρ (.tmp 17) = .pointer (some ⟨g, o + k, none⟩) := (hdep ⟨12, .data⟩ (by simp) rfl).1 17 rfl
            have yg : y 6 = some true := (hdep ⟨6, .guard⟩ (by simp) rfl).2 11 rfl
            have ocn : ∀ v, ρ (.const v) = v := fun v => hout (.const v) rfl
            have ofn : ∀ f, ρ (.func f) = .func (.func f) #[] #[] := fun f => hout (.func f) rfl
            clear hdep hout
            refine .inl ⟨?_, ?_⟩
            · show (y 6 == some true) = true
              rw [yg]; rfl
            show Gives _ _ _ (.pointer (some ⟨g, o + k, none⟩)) _
            refine Gives.val ?_
            go_simp
          rcases i with _ | i
          · obtain rfl := Option.some.inj ho
            have e13 : ρ (.tmp 18) = .pointer (some ⟨g, o + k, none⟩) := (hdep ⟨13, .data⟩ (by simp) rfl).1 18 rfl
            have yg : y 6 = some true := (hdep ⟨6, .guard⟩ (by simp) rfl).2 11 rfl
            have ocn : ∀ v, ρ (.const v) = v := fun v => hout (.const v) rfl
            have ofn : ∀ f, ρ (.func f) = .func (.func f) #[] #[] := fun f => hout (.func f) rfl
            clear hdep hout
            refine .inl ⟨?_, ?_⟩
            · show (y 6 == some true) = true
              rw [yg]; rfl
            have hcu := ((HAl.out.trans (hBx.mono HAl.out.size)).cell (p := ⟨g, o + k, none⟩) hg).trans hu
            show Gives _ _ _ (.slice (some ⟨gi, o2, none⟩) cl ck) _
            refine Gives.val ?_
            go_simp
          rcases i with _ | i
          · obtain rfl := Option.some.inj ho
            have e14 : ρ (.tmp 19) = .slice (some ⟨gi, o2, none⟩) cl ck := (hdep ⟨14, .data⟩ (by simp) rfl).1 19 rfl
            have yg : y 6 = some true := (hdep ⟨6, .guard⟩ (by simp) rfl).2 11 rfl
            have ocn : ∀ v, ρ (.const v) = v := fun v => hout (.const v) rfl
            have ofn : ∀ f, ρ (.func f) = .func (.func f) #[] #[] := fun f => hout (.func f) rfl
            clear hdep hout
            refine .inl ⟨?_, ?_⟩
            · show (y 6 == some true) = true
              rw [yg]; rfl
            show Gives _ _ _ (.int .i64 cl) _
            refine Gives.val ?_
            go_simp
          rcases i with _ | i
          · obtain rfl := Option.some.inj ho
            have e15 : ρ (.tmp 20) = .int .i64 cl := (hdep ⟨15, .data⟩ (by simp) rfl).1 20 rfl
            have yg : y 6 = some true := (hdep ⟨6, .guard⟩ (by simp) rfl).2 11 rfl
            have ocn : ∀ v, ρ (.const v) = v := fun v => hout (.const v) rfl
            have ofn : ∀ f, ρ (.func f) = .func (.func f) #[] #[] := fun f => hout (.func f) rfl
            clear hdep hout
            refine .inl ⟨?_, ?_⟩
            · show (y 6 == some true) = true
              rw [yg]; rfl
            show Gives _ _ _ (.int .i64 ((cl : Int) - 1)) _
            refine Gives.val ?_
            (go_simp; exact IntWalk.i64_in _ (by omega))
          rcases i with _ | i
          · obtain rfl := Option.some.inj ho
            have e8 : ρ (.tmp 13) = .int .i64 a := (hdep ⟨8, .data⟩ (by simp) rfl).1 13 rfl
            have e16 : ρ (.tmp 21) = .int .i64 ((cl : Int) - 1) := (hdep ⟨16, .data⟩ (by simp) rfl).1 21 rfl
            have yg : y 6 = some true := (hdep ⟨6, .guard⟩ (by simp) rfl).2 11 rfl
            have ocn : ∀ v, ρ (.const v) = v := fun v => hout (.const v) rfl
            have ofn : ∀ f, ρ (.func f) = .func (.func f) #[] #[] := fun f => hout (.func f) rfl
            clear hdep hout
            refine .inl ⟨?_, ?_⟩
            · show (y 6 == some true) = true
              rw [yg]; rfl
            show Gives _ _ _ (.bool true) _
            refine Gives.call (l6In_b a 0 ((cl : Int) - 1) true g2 x) ?_
            go_simp
          rcases i with _ | i
          · obtain rfl := Option.some.inj ho
            have e6 : ρ (.tmp 11) = .bool true := (hdep ⟨6, .data⟩ (by simp) rfl).1 11 rfl
            have e17 : ρ (.tmp 22) = .bool true := (hdep ⟨17, .data⟩ (by simp) rfl).1 22 rfl
            have ocn : ∀ v, ρ (.const v) = v := fun v => hout (.const v) rfl
            have ofn : ∀ f, ρ (.func f) = .func (.func f) #[] #[] := fun f => hout (.func f) rfl
            clear hdep hout
            refine .inl ⟨?_, ?_⟩
            · rfl
            show Gives _ _ _ (.bool true) _
            refine Gives.val ?_
            go_simp
          rcases i with _ | i
          · obtain rfl := Option.some.inj ho
            have e18 : ρ (.tmp 23) = .bool true := (hdep ⟨18, .data⟩ (by simp) rfl).1 23 rfl
            have ocn : ∀ v, ρ (.const v) = v := fun v => hout (.const v) rfl
            have ofn : ∀ f, ρ (.func f) = .func (.func f) #[] #[] := fun f => hout (.func f) rfl
            clear hdep hout
            refine .inl ⟨?_, ?_⟩
            · rfl
            show Gives _ _ _ (.bool true) _
            refine Gives.val ?_
            go_simp
          rcases i with _ | i
          · obtain rfl := Option.some.inj ho
            have o3 : ρ (.tmp 3) = .pointer (some ⟨x0.heap.size, 0, none⟩) := hout (.tmp 3) rfl
            have yg : y 19 = some true := (hdep ⟨19, .guard⟩ (by simp) rfl).2 24 rfl
            have ocn : ∀ v, ρ (.const v) = v := fun v => hout (.const v) rfl
            have ofn : ∀ f, ρ (.func f) = .func (.func f) #[] #[] := fun f => hout (.func f) rfl
            clear hdep hout
            refine .inl ⟨?_, ?_⟩
            · show (y 19 == some true) = true
              rw [yg]; rfl
            show Gives _ _ _ (.pointer (some ⟨x0.heap.size, 2, none⟩)) _
            refine Gives.val ?_
            go_simp
          rcases i with _ | i
          · obtain rfl := Option.some.inj ho
            have e20 : ρ (.tmp 25) = .pointer (some ⟨x0.heap.size, 2, none⟩) := (hdep ⟨20, .data⟩ (by simp) rfl).1 25 rfl
            have yg : y 19 = some true := (hdep ⟨19, .guard⟩ (by simp) rfl).2 24 rfl
            have ocn : ∀ v, ρ (.const v) = v := fun v => hout (.const v) rfl
            have ofn : ∀ f, ρ (.func f) = .func (.func f) #[] #[] := fun f => hout (.func f) rfl
            clear hdep hout
            refine .inl ⟨?_, ?_⟩
            · show (y 19 == some true) = true
              rw [yg]; rfl
            have kb := K00.out.later hBx
            have c0 := kb.c 0 _ rfl
            have c1 := kb.c 1 _ rfl
            have c2 := kb.c 2 _ rfl
            have cl0 := kb.lt
            show Gives _ _ _ (.int .i64 n2) _
            refine Gives.val ?_
            go_simp
          rcases i with _ | i
          · obtain rfl := Option.some.inj ho
            have e21 : ρ (.tmp 26) = .int .i64 n2 := (hdep ⟨21, .data⟩ (by simp) rfl).1 26 rfl
            have yg : y 19 = some true := (hdep ⟨19, .guard⟩ (by simp) rfl).2 24 rfl
            have ocn : ∀ v, ρ (.const v) = v := fun v => hout (.const v) rfl
            have ofn : ∀ f, ρ (.func f) = .func (.func f) #[] #[] := fun f => hout (.func f) rfl
            clear hdep hout
            refine .inl ⟨?_, ?_⟩
            · show (y 19 == some true) = true
              rw [yg]; rfl
            show Gives _ _ _ (.bool true) _
            refine Gives.val ?_
            go_simp
          rcases i with _ | i
          · obtain rfl := Option.some.inj ho
            have e19 : ρ (.tmp 24) = .bool true := (hdep ⟨19, .data⟩ (by simp) rfl).1 24 rfl
            have e22 : ρ (.tmp 27) = .bool true := (hdep ⟨22, .data⟩ (by simp) rfl).1 27 rfl
            have ocn : ∀ v, ρ (.const v) = v := fun v => hout (.const v) rfl
            have ofn : ∀ f, ρ (.func f) = .func (.func f) #[] #[] := fun f => hout (.func f) rfl
            clear hdep hout
            refine .inl ⟨?_, ?_⟩
            · rfl
            show Gives _ _ _ (.bool true) _
            refine Gives.val ?_
            go_simp
          rcases i with _ | i
          · obtain rfl := Option.some.inj ho
            have e23 : ρ (.tmp 28) = .bool true := (hdep ⟨23, .data⟩ (by simp) rfl).1 28 rfl
            have ocn : ∀ v, ρ (.const v) = v := fun v => hout (.const v) rfl
            have ofn : ∀ f, ρ (.func f) = .func (.func f) #[] #[] := fun f => hout (.func f) rfl
            clear hdep hout
            refine .inl ⟨?_, ?_⟩
            · rfl
            show Gives _ _ _ (.bool true) _
            refine Gives.val ?_
            go_simp
          rcases i with _ | i
          · obtain rfl := Option.some.inj ho
            have o0 : ρ (.tmp 0) = .slice (some ⟨g, o, none⟩) pn cap := hout (.tmp 0) rfl
            have yg : y 24 = some true := (hdep ⟨24, .guard⟩ (by simp) rfl).2 29 rfl
            have ocn : ∀ v, ρ (.const v) = v := fun v => hout (.const v) rfl
            have ofn : ∀ f, ρ (.func f) = .func (.func f) #[] #[] := fun f => hout (.func f) rfl
            clear hdep hout
            refine .inl ⟨?_, ?_⟩
            · show (y 24 == some true) = true
              rw [yg]; rfl
            show Gives _ _ _ (.slice (some ⟨g, o, none⟩) pn cap) _
            refine Gives.val ?_
            go_simp
          rcases i with _ | i
          · obtain rfl := Option.some.inj ho
            have o3 : ρ (.tmp 3) = .pointer (some ⟨x0.heap.size, 0, none⟩) := hout (.tmp 3) rfl
            have yg : y 24 = some true := (hdep ⟨24, .guard⟩ (by simp) rfl).2 29 rfl
            have ocn : ∀ v, ρ (.const v) = v := fun v => hout (.const v) rfl
            have ofn : ∀ f, ρ (.func f) = .func (.func f) #[] #[] := fun f => hout (.func f) rfl
            clear hdep hout
            refine .inl ⟨?_, ?_⟩
            · show (y 24 == some true) = true
              rw [yg]; rfl
            show Gives _ _ _ (.pointer (some ⟨x0.heap.size, 0, none⟩)) _
            refine Gives.val ?_
            go_simp
          rcases i with _ | i
          · obtain rfl := Option.some.inj ho
            have e26 : ρ (.tmp 31) = .pointer (some ⟨x0.heap.size, 0, none⟩) := (hdep ⟨26, .data⟩ (by simp) rfl).1 31 rfl
            have yg : y 24 = some true := (hdep ⟨24, .guard⟩ (by simp) rfl).2 29 rfl
            have ocn : ∀ v, ρ (.const v) = v := fun v => hout (.const v) rfl
            have ofn : ∀ f, ρ (.func f) = .func (.func f) #[] #[] := fun f => hout (.func f) rfl
            clear hdep hout
            refine .inl ⟨?_, ?_⟩
            · show (y 24 == some true) = true
              rw [yg]; rfl
            have kb := K00.out.later hBx
            have c0 := kb.c 0 _ rfl
            have c1 := kb.c 1 _ rfl
            have c2 := kb.c 2 _ rfl
            have cl0 := kb.lt
            show Gives _ _ _ (.int .i64 k) _
            refine Gives.val ?_
            go_simp
          rcases i with _ | i
          · obtain rfl := Option.some.inj ho
            have e25 : ρ (.tmp 30) = .slice (some ⟨g, o, none⟩) pn cap := (hdep ⟨25, .data⟩ (by simp) rfl).1 30 rfl
            have e27 : ρ (.tmp 32) = .int .i64 k := (hdep ⟨27, .data⟩ (by simp) rfl).1 32 rfl
            have yg : y 24 = some true := (hdep ⟨24, .guard⟩ (by simp) rfl).2 29 rfl
            have ocn : ∀ v, ρ (.const v) = v := fun v => hout (.const v) rfl
            have ofn : ∀ f, ρ (.func f) = .func (.func f) #[] #[] := fun f => hout (.func f) rfl
            clear hdep hout
            refine .inl ⟨?_, ?_⟩
            · show (y 24 == some true) = true
              rw [yg]; rfl
            show Gives _ _ _ (.pointer (some ⟨g, o + k, none⟩)) _
            refine Gives.val ?_
            go_simp
          rcases i with _ | i
          · obtain rfl := Option.some.inj ho
            have e28 : ρ (.tmp 33) = .pointer (some ⟨g, o + k, none⟩) := (hdep ⟨28, .data⟩ (by simp) rfl).1 33 rfl
            have yg : y 24 = some true := (hdep ⟨24, .guard⟩ (by simp) rfl).2 29 rfl
            have ocn : ∀ v, ρ (.const v) = v := fun v => hout (.const v) rfl
            have ofn : ∀ f, ρ (.func f) = .func (.func f) #[] #[] := fun f => hout (.func f) rfl
            clear hdep hout
            refine .inl ⟨?_, ?_⟩
            · show (y 24 == some true) = true
              rw [yg]; rfl
            show Gives _ _ _ (.pointer (some ⟨g, o + k, none⟩)) _
            refine Gives.val ?_
            go_simp
          rcases i with _ | i
          · obtain rfl := Option.some.inj ho
            have e29 : ρ (.tmp 34) = .pointer (some ⟨g, o + k, none⟩) := (hdep ⟨29, .data⟩ (by simp) rfl).1 34 rfl
            have yg : y 24 = some true := (hdep ⟨24, .guard⟩ (by simp) rfl).2 29 rfl
            have ocn : ∀ v, ρ (.const v) = v := fun v => hout (.const v) rfl
            have ofn : ∀ f, ρ (.func f) = .func (.func f) #[] #[] := fun f => hout (.func f) rfl
            clear hdep hout
            refine .inl ⟨?_, ?_⟩
            · show (y 24 == some true) = true
              rw [yg]; rfl
            have hcu := ((HAl.out.trans (hBx.mono HAl.out.size)).cell (p := ⟨g, o + k, none⟩) hg).trans hu
            show Gives _ _ _ (.slice (some ⟨gi, o2, none⟩) cl ck) _
            refine Gives.val ?_
            go_simp
          rcases i with _ | i
          · obtain rfl := Option.some.inj ho
            have o3 : ρ (.tmp 3) = .pointer (some ⟨x0.heap.size, 0, none⟩) := hout (.tmp 3) rfl
            have yg : y 24 = some true := (hdep ⟨24, .guard⟩ (by simp) rfl).2 29 rfl
            have ocn : ∀ v, ρ (.const v) = v := fun v => hout (.const v) rfl
            have ofn : ∀ f, ρ (.func f) = .func (.func f) #[] #[] := fun f => hout (.func f) rfl
            clear hdep hout
            refine .inl ⟨?_, ?_⟩
            · show (y 24 == some true) = true
              rw [yg]; rfl
            show Gives _ _ _ (.pointer (some ⟨x0.heap.size, 1, none⟩)) _
            refine Gives.val ?_
            go_simp
          rcases i with _ | i
          · obtain rfl := Option.some.inj ho
            have e31 : ρ (.tmp 36) = .pointer (some ⟨x0.heap.size, 1, none⟩) := (hdep ⟨31, .data⟩ (by simp) rfl).1 36 rfl
            have yg : y 24 = some true := (hdep ⟨24, .guard⟩ (by simp) rfl).2 29 rfl
            have ocn : ∀ v, ρ (.const v) = v := fun v => hout (.const v) rfl
            have ofn : ∀ f, ρ (.func f) = .func (.func f) #[] #[] := fun f => hout (.func f) rfl
            clear hdep hout
            refine .inl ⟨?_, ?_⟩
            · show (y 24 == some true) = true
              rw [yg]; rfl
            have kb := K00.out.later hBx
            have c0 := kb.c 0 _ rfl
            have c1 := kb.c 1 _ rfl
            have c2 := kb.c 2 _ rfl
            have cl0 := kb.lt
            show Gives _ _ _ (.int .i64 a) _
            refine Gives.val ?_
            go_simp
          rcases i with _ | i
          · obtain rfl := Option.some.inj ho
            have e30 : ρ (.tmp 35) = .slice (some ⟨gi, o2, none⟩) cl ck := (hdep ⟨30, .data⟩ (by simp) rfl).1 35 rfl
            have e32 : ρ (.tmp 37) = .int .i64 a := (hdep ⟨32, .data⟩ (by simp) rfl).1 37 rfl
            have yg : y 24 = some true := (hdep ⟨24, .guard⟩ (by simp) rfl).2 29 rfl
            have ocn : ∀ v, ρ (.const v) = v := fun v => hout (.const v) rfl
            have ofn : ∀ f, ρ (.func f) = .func (.func f) #[] #[] := fun f => hout (.func f) rfl
            clear hdep hout
            refine .inl ⟨?_, ?_⟩
            · show (y 24 == some true) = true
              rw [yg]; rfl
            show Gives _ _ _ (.pointer (some ⟨gi, o2 + a * 4, none⟩)) _
            refine Gives.val ?_
            go_simp
          rcases i with _ | i
          · obtain rfl := Option.some.inj ho
            have e33 : ρ (.tmp 38) = .pointer (some ⟨gi, o2 + a * 4, none⟩) := (hdep ⟨33, .data⟩ (by simp) rfl).1 38 rfl
            have yg : y 24 = some true := (hdep ⟨24, .guard⟩ (by simp) rfl).2 29 rfl
            have ocn : ∀ v, ρ (.const v) = v := fun v => hout (.const v) rfl
            have ofn : ∀ f, ρ (.func f) = .func (.func f) #[] #[] := fun f => hout (.func f) rfl
            clear hdep hout
            refine .inl ⟨?_, ?_⟩
            · show (y 24 == some true) = true
              rw [yg]; rfl
            have hbz := HAl.out.trans (hBx.mono HAl.out.size)
            have i0 := (hbz.cell (p := ⟨gi, o2 + a * 4, none⟩) hg2).trans q0
            have i1 := (hbz.cell (p := ⟨gi, o2 + a * 4 + 1, none⟩) hg2).trans q1
            have i2 := (hbz.cell (p := ⟨gi, o2 + a * 4 + 2, none⟩) hg2).trans q2
            have i3 := (hbz.cell (p := ⟨gi, o2 + a * 4 + 3, none⟩) hg2).trans q3
            show Gives _ _ _ (.agg #[.int .i64 I.1, .int .i64 I.2.1, .int .i64 I.2.2.1, .int .i64 I.2.2.2]) _
            refine Gives.val ?_
            go_simp
          rcases i with _ | i
          · obtain rfl := Option.some.inj ho
            have e34 : ρ (.tmp 39) = .agg #[.int .i64 I.1, .int .i64 I.2.1, .int .i64 I.2.2.1, .int .i64 I.2.2.2] := (hdep ⟨34, .data⟩ (by simp) rfl).1 39 rfl
            have yg : y 24 = some true := (hdep ⟨24, .guard⟩ (by simp) rfl).2 29 rfl
            have ocn : ∀ v, ρ (.const v) = v := fun v => hout (.const v) rfl
            have ofn : ∀ f, ρ (.func f) = .func (.func f) #[] #[] := fun f => hout (.func f) rfl
            clear hdep hout
            refine .inl ⟨?_, ?_⟩
            · show (y 24 == some true) = true
              rw [yg]; rfl
            show Gives _ _ _ (.int .i64 (faultF I)) _
            refine Gives.call (HFO.out x) ?_
            go_simp
          rcases i with _ | i
          · obtain rfl := Option.some.inj ho
            have o3 : ρ (.tmp 3) = .pointer (some ⟨x0.heap.size, 0, none⟩) := hout (.tmp 3) rfl
            have yg : y 24 = some true := (hdep ⟨24, .guard⟩ (by simp) rfl).2 29 rfl
            have ocn : ∀ v, ρ (.const v) = v := fun v => hout (.const v) rfl
            have ofn : ∀ f, ρ (.func f) = .func (.func f) #[] #[] := fun f => hout (.func f) rfl
            clear hdep hout
            refine .inl ⟨?_, ?_⟩
            · show (y 24 == some true) = true
              rw [yg]; rfl
            show Gives _ _ _ (.pointer (some ⟨x0.heap.size, 2, none⟩)) _
            refine Gives.val ?_
            go_simp
          rcases i with _ | i
          · obtain rfl := Option.some.inj ho
            have e36 : ρ (.tmp 41) = .pointer (some ⟨x0.heap.size, 2, none⟩) := (hdep ⟨36, .data⟩ (by simp) rfl).1 41 rfl
            have yg : y 24 = some true := (hdep ⟨24, .guard⟩ (by simp) rfl).2 29 rfl
            have ocn : ∀ v, ρ (.const v) = v := fun v => hout (.const v) rfl
            have ofn : ∀ f, ρ (.func f) = .func (.func f) #[] #[] := fun f => hout (.func f) rfl
            clear hdep hout
            refine .inl ⟨?_, ?_⟩
            · show (y 24 == some true) = true
              rw [yg]; rfl
            have kb := K00.out.later hBx
            have c0 := kb.c 0 _ rfl
            have c1 := kb.c 1 _ rfl
            have c2 := kb.c 2 _ rfl
            have cl0 := kb.lt
            show Gives _ _ _ (.int .i64 n2) _
            refine Gives.val ?_
            go_simp
          rcases i with _ | i
          · obtain rfl := Option.some.inj ho
            have e35 : ρ (.tmp 40) = .int .i64 (faultF I) := (hdep ⟨35, .data⟩ (by simp) rfl).1 40 rfl
            have e37 : ρ (.tmp 42) = .int .i64 n2 := (hdep ⟨37, .data⟩ (by simp) rfl).1 42 rfl
            have yg : y 24 = some true := (hdep ⟨24, .guard⟩ (by simp) rfl).2 29 rfl
            have ocn : ∀ v, ρ (.const v) = v := fun v => hout (.const v) rfl
            have ofn : ∀ f, ρ (.func f) = .func (.func f) #[] #[] := fun f => hout (.func f) rfl
            clear hdep hout
            refine .inl ⟨?_, ?_⟩
            · show (y 24 == some true) = true
              rw [yg]; rfl
            show Gives _ _ _ (.bool (faultF I == n2)) _
            refine Gives.val ?_
            go_simp
          rcases i with _ | i
          · obtain rfl := Option.some.inj ho
            have e24 : ρ (.tmp 29) = .bool true := (hdep ⟨24, .data⟩ (by simp) rfl).1 29 rfl
            have e38 : ρ (.tmp 43) = .bool (faultF I == n2) := (hdep ⟨38, .data⟩ (by simp) rfl).1 43 rfl
            have ocn : ∀ v, ρ (.const v) = v := fun v => hout (.const v) rfl
            have ofn : ∀ f, ρ (.func f) = .func (.func f) #[] #[] := fun f => hout (.func f) rfl
            clear hdep hout
            refine .inl ⟨?_, ?_⟩
            · rfl
            show Gives _ _ _ (.bool (faultF I == n2)) _
            refine Gives.val ?_
            go_simp
          rcases i with _ | i
          · obtain rfl := Option.some.inj ho
            have e39 : ρ (.tmp 44) = .bool (faultF I == n2) := (hdep ⟨39, .data⟩ (by simp) rfl).1 44 rfl
            have ocn : ∀ v, ρ (.const v) = v := fun v => hout (.const v) rfl
            have ofn : ∀ f, ρ (.func f) = .func (.func f) #[] #[] := fun f => hout (.func f) rfl
            clear hdep hout
            refine .inl ⟨?_, ?_⟩
            · rfl
            show Gives _ _ _ (.bool (faultF I == n2)) _
            refine Gives.val ?_
            go_simp
          cases ho
        case fin =>
          intro x hBx
          have hBf := HAl.out.trans (hBx.mono HAl.out.size)
          go_wp2_with fail
          go_ret
          exact ⟨retBool (by rw [HFr3.out]; exact eqb2 n2 (faultF I) h5), hBf⟩

end Go.Proofs.Ytbjegekfghihkaa
