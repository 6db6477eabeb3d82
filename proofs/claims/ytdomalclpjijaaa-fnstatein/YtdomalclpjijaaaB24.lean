import Derived.Test.YtdomalclpjijaaaB23
import Derived.Test.YtdomalclpjijaaaB19
import Derived.Test.YtdomalclpjijaaaB18
/-
  The contract of l71Within: registers and cells drawn for a state.
-/
namespace Go.Proofs.Ytdomalclpjijaaa
open Go.RowKit
set_option linter.unusedVariables false
set_option linter.unusedSimpArgs false

/-- two drawn rows of three numbers -/
structure GotW (r B : Nat) (x : World) (e : Ending) (y : World) : Prop where
  it : ∃ (v6 v7 : Value) (R C : List Int), e = .returned (.tuple #[v6, v7]) ∧ R.length = 3 ∧ C.length = 3 ∧ y.ownsRow (x.heap.size + 1) 3 1 v6 3 (intV R) ∧ y.ownsRow (x.heap.size + 1) 3 1 v7 3 (intV C) ∧ (∀ k, v6.ownBlock = some k → v7.ownBlock ≠ some k) ∧ Drawn r B x y
theorem owns_empty (y : World) (base g : Nat) (h : y.heap[g]? = some (.cells #[] 3 (0, 0))) (hg : base ≤ g) : y.ownsRow base 3 1 (.slice (some ⟨g, 0, none⟩) 0 0) 0 [] :=
  ⟨rfl, .inr ⟨g, 0, #[], rfl, hg, h, Nat.le_refl _, by unfold maxLen; omega, rfl, rfl⟩⟩
theorem ws_le {r B D : Nat} {x y : World} {a : Bool} {p : Option Addr} {n cap : Nat} {c : Bool} {l u : Int} {L : List Sp} {zf : Bool} {B0 E0 : Nat} {v6 : Value} {R : List Int} {v7 : Value} {C : List Int} (h : WS r B x y a p n cap c l u L zf B0 E0 v6 R v7 C) (hd : B ≤ D) : Hid (WS r D x y a p n cap c l u L zf B0 E0 v6 R v7 C) :=
  (⟨h.drawn.le hd, h.box, h.row, h.o6, h.o7, h.ne, h.hr, h.hB⟩ : WS r D x y a p n cap c l u L zf B0 E0 v6 R v7 C)
set_option maxRecDepth 100000 in
set_option maxHeartbeats 8000000 in
theorem l71Within_any (r B : Nat) (x : World) (zf : Bool) (B0 E0 : Nat) (a : Bool) (v : Value) (L : List Sp) (c : Bool) (l u : Int) (h : Rd x r B) (hB : B ≤ 50000) (hs : SpsAt zf x B0 E0 v L) (hB0 : r < B0 ∧ E0 ≤ x.heap.size) :
    Calls Try.prog 43 #[.pointer (some ⟨r, 0, none⟩), .agg #[.bool a, v, .bool c, .int .i64 l, .int .i64 u]] x fun e y => GotW r (B + 30) x e y := by
  obtain ⟨p, cap, hv⟩ := hs.shape
  generalize hn : L.length = n at hv
  subst hv
  have HN : Hid (L.length = n) := hn
  clear hn
  have hr := h.lt
  have hA1 := drawn_alloc (.cells #[.bool a, .slice p n cap, .bool c, .int .i64 l, .int .i64 u] 31) h
  have hA2 := hA1.trans (drawn_alloc (.cells #[] 3) hA1.rd)
  have hA3 := hA2.trans (drawn_alloc (.cells #[] 3) hA2.rd)
  have hb0 : Below x.heap.size x (((x.alloc (.cells #[.bool a, .slice p n cap, .bool c, .int .i64 l, .int .i64 u] 31)).alloc (.cells #[] 3)).alloc (.cells #[] 3)) := by go_grown
  have W0 : Hid (WS r (B) x (((x.alloc (.cells #[.bool a, .slice p n cap, .bool c, .int .i64 l, .int .i64 u] 31)).alloc (.cells #[] 3)).alloc (.cells #[] 3)) a p n cap c l u L zf B0 E0 (.slice (some ⟨x.heap.size + 1, 0, none⟩) 0 0) [] (.slice (some ⟨x.heap.size + 1 + 1, 0, none⟩) 0 0) []) := ⟨hA3, ((Bx5.new x _ _ _ _ _ _).alloc _).alloc _, hs.later hb0, owns_empty _ _ _ ((Below.heap_alloc _ _ _ (by simp)).trans (by have h9 := World.alloc_heap_new (x.alloc (.cells #[.bool a, .slice p n cap, .bool c, .int .i64 l, .int .i64 u] 31)) (.cells #[] 3); rw [World.size_alloc] at h9; exact h9)) (Nat.le_refl _), owns_empty _ _ _ (by have h9 := World.alloc_heap_new ((x.alloc (.cells #[.bool a, .slice p n cap, .bool c, .int .i64 l, .int .i64 u] 31)).alloc (.cells #[] 3)) (.cells #[] 3); rw [World.size_alloc, World.size_alloc] at h9; exact h9) (by omega), (fun k h1 h2 => by simp [Value.ownBlock] at h1 h2; omega), hr, hB0⟩
  clear hA1 hA2 hA3 hb0 hs h
  go_enter Try.func43, Try.ntmps43
  go_wp2_with fail
  generalize (((x.alloc (.cells #[.bool a, .slice p n cap, .bool c, .int .i64 l, .int .i64 u] 31)).alloc (.cells #[] 3)).alloc (.cells #[] 3)) = Y at W0 ⊢
  go_loopw [6, 8] (fun s t y => ∃ (k : Nat) (v6 : Value) (R : List Int), k ≤ 3 ∧ v6 = s ∧ t = .int .i64 k ∧ R.length = k ∧ Hid (WS r (B + 4 * k) x y a p n cap c l u L zf B0 E0 v6 R (.slice (some ⟨x.heap.size + 1 + 1, 0, none⟩) 0 0) [])) (fun _ t _ => 3 - (intOf t).toNat)
  case atStart => exact ⟨0, _, [], by omega, rfl, rfl, rfl, W0⟩
  case round =>
    clear W0
    obtain ⟨k, v6, R, hk, rfl, rfl, hR, hW⟩ := hrel
    by_cases hlt : k < 3
    · have hki : (k : Int) < 3 := by omega
      have hrd := hW.out.drawn.rd
      go_wp2_with fail
      refine (l71Word_any r (B + 4 * k) _ hrd (by omega)).mono ?_
      rintro e z1 ⟨nn, rfl, nn0, nn1, hD1⟩
      have W1 : Hid (WS r (B + 4 * k + 2) x z1 a p n cap c l u L zf B0 E0 v6 R (.slice (some ⟨x.heap.size + 1 + 1, 0, none⟩) 0 0) []) := hW.out.draw hD1
      clear hD1 hrd hW
      obtain ⟨_, b0, b1, b2, b3, b4, _⟩ := W1.out.box
      go_wp2_with fail
      clear b0 b1 b2 b3 b4
      refine (l11Some_any _ zf _ _ _ _ L _ _ _ W1.out.row).mono ?_
      rintro e z2 ⟨rfl, hb2⟩
      have W2 : Hid (WS r (B + 4 * k + 2) x z2 a p n cap c l u L zf B0 E0 v6 R (.slice (some ⟨x.heap.size + 1 + 1, 0, none⟩) 0 0) []) := W1.out.below hb2
      clear W1 hb2
      cases hso : (a && stOk a L (c, l, u))
      · skip
        obtain ⟨p9, cap9, w9, hrun, W9⟩ := W2.out.app6 38 (by omega) (nn)
        go_wp2_with (refine wpList_app rfl _ _ 38 rfl rfl rfl hrun ?_)
        have hkk : B + 4 * k + 2 ≤ B + 4 * (k + 1) ∧ B + 4 * k + 2 + 1 ≤ B + 4 * (k + 1) := by omega
        have W10 := ws_le (D := B + 4 * (k + 1)) W9.out (by omega)
        have hlen : (R ++ [nn]).length = k + 1 := by simp; omega
        have W11 := W10.out
        rw [hR] at W11
        go_roundw
        case rel => exact ⟨k + 1, _, _, by omega, rfl, by go_num, hlen, W11⟩
        case measure => simp [intOf]; omega
      · have hrd2 := W2.out.drawn.rd
        go_wp2_with fail
        refine (pick_any r (B + 4 * k + 2) 24 _ hrd2 (by omega) (by omega)).mono ?_
        rintro e z3 ⟨tt, rfl, tt0, tt1, hD3⟩
        have W3 : Hid (WS r (B + 4 * k + 2 + 1) x z3 a p n cap c l u L zf B0 E0 v6 R (.slice (some ⟨x.heap.size + 1 + 1, 0, none⟩) 0 0) []) := W2.out.draw hD3
        clear hD3 hrd2 W2
        by_cases htt : 0 < tt
        · have hst : stOk true L (c, l, u) = true := by cases a <;> simp_all
          obtain rfl : a = true := by cases a <;> simp_all
          have hf : ∃ s0 s1 s2, L = [s0, s1, s2] ∧ someF s0 = true ∧ someF s1 = true ∧ someF s2 = true := by
            rcases ok_form hst with ⟨h0, _⟩ | ⟨_, s0, s1, s2, e, h0, h1, h2, _⟩
            · cases h0
            · exact ⟨s0, s1, s2, e, h0, h1, h2⟩
          have hk9 : someF (L.getD k noSp) = true := by
            obtain ⟨s0, s1, s2, rfl, h0, h1, h2⟩ := hf
            match k, hlt with
            | 0, _ => exact h0
            | 1, _ => exact h1
            | 2, _ => exact h2
            | k + 3, hh => omega
          have hn3 : n = 3 := HN.out.symm.trans (stOk_len' hst)
          subst hn3
          obtain ⟨lo, hi, hsp, h9a, h9b, h9c⟩ := some_form hk9
          have hd : Below z3.heap.size z3 z3.drew := (Below.refl _ _).drew
          have W4 : Hid (WS r (B + 4 * k + 2 + 1) x z3.drew true p 3 cap c l u L zf B0 E0 v6 R (.slice (some ⟨x.heap.size + 1 + 1, 0, none⟩) 0 0) []) := W3.out.below hd
          obtain ⟨g, oo, rfl, hgx, hgs⟩ := W4.out.row.three HN.out
          have hrg : r ≠ g := by have h9 := W4.out.row; obtain ⟨p8, c8, e8, _, hq8⟩ := h9; injection e8 with e8; rcases hq8 with h0 | ⟨g8, o8, hp8, hB8, _⟩; (rw [HN.out] at h0; omega); (rw [hp8] at e8; injection e8 with e8; injection e8 with e8; have := W4.out.hB.1; omega)
          obtain ⟨q0, q1, q2⟩ := hgs k hlt
          rw [hsp] at q0 q1 q2
          simp only at q0 q1 q2
          have hrx : r ≠ x.heap.size := by omega
          have bx := W4.out.box
          have bxl := bx.lt
          have b1 := bx.c1
          clear hf hk9 hsp hgs W3
          have hrd4 := W4.out.drawn.rd
          have s1_ : IntKind.i64.wrap (hi - lo) = hi - lo := IntWalk.i64_in _ (by omega)
          have s2_ : IntKind.i64.wrap (hi - lo + 1) = hi - lo + 1 := IntWalk.i64_in _ (by omega)
          go_wp2_with fail
          go_region_held3 (fun z => z.cell? ⟨x.heap.size, 1, none⟩ = some (.slice (some ⟨g, oo, none⟩) 3 cap) ∧ z.cell? ⟨g, oo + k * 3 + 1, none⟩ = some (.int .i64 lo) ∧ z.cell? ⟨g, oo + k * 3 + 2, none⟩ = some (.int .i64 hi)) (first | (with_reducible assumption) | exact ⟨b1, q1, q2⟩ | fail) ((go_at_call 44; refine (pick_any r (B + 4 * k + 2 + 1) (hi - lo + 1) _ hrd4 (by omega) (by omega)).mono ?_; rintro e z5 ⟨v5, rfl, v50, v51, hD5⟩; have hS5 : (fun z => z.cell? ⟨x.heap.size, 1, none⟩ = some (.slice (some ⟨g, oo, none⟩) 3 cap) ∧ z.cell? ⟨g, oo + k * 3 + 1, none⟩ = some (.int .i64 lo) ∧ z.cell? ⟨g, oo + k * 3 + 2, none⟩ = some (.int .i64 hi)) z5 := ⟨hD5.cell x.heap.size 1 (by omega) bxl |>.trans b1, (hD5.cell g _ (by omega) hgx).trans q1, (hD5.cell g _ (by omega) hgx).trans q2⟩; have s3_ : IntKind.i64.wrap (lo + v5) = lo + v5 := IntWalk.i64_in _ (by omega)))
          have W5 : Hid (WS r (B + 4 * k + 2 + 1 + 1) x z5 true (some ⟨g, oo, none⟩) 3 cap c l u L zf B0 E0 v6 R (.slice (some ⟨x.heap.size + 1 + 1, 0, none⟩) 0 0) []) := W4.out.draw hD5
          clear W4 hD5 hrd4 hS5 bx bxl b1 q0 q1 q2
          obtain ⟨p9, cap9, w9, hrun, W9⟩ := W5.out.app6 38 (by omega) (lo + v5)
          go_wp2_with (refine wpList_app rfl _ _ 38 rfl rfl rfl hrun ?_)
          have W10 := ws_le (D := B + 4 * (k + 1)) W9.out (by omega)
          have hlen : (R ++ [lo + v5]).length = k + 1 := by simp; omega
          have W11 := W10.out
          rw [hR] at W11
          go_roundw
          case rel => exact ⟨k + 1, _, _, by omega, rfl, by go_num, hlen, W11⟩
          case measure => simp [intOf]; omega
        · skip
          obtain ⟨p9, cap9, w9, hrun, W9⟩ := W3.out.app6 38 (by omega) (nn)
          go_wp2_with (refine wpList_app rfl _ _ 38 rfl rfl rfl hrun ?_)
          have hkk : B + 4 * k + 2 ≤ B + 4 * (k + 1) ∧ B + 4 * k + 2 + 1 ≤ B + 4 * (k + 1) := by omega
          have W10 := ws_le (D := B + 4 * (k + 1)) W9.out (by omega)
          have hlen : (R ++ [nn]).length = k + 1 := by simp; omega
          have W11 := W10.out
          rw [hR] at W11
          go_roundw
          case rel => exact ⟨k + 1, _, _, by omega, rfl, by go_num, hlen, W11⟩
          case measure => simp [intOf]; omega
    · obtain rfl : k = 3 := by omega
      have hki : ¬ ((3 : Nat) : Int) < 3 := by omega
      have hR3 : R.length = 3 := hR
      have W0 : Hid (WS r (B + 12) x wr a p n cap c l u L zf B0 E0 v6 R (.slice (some ⟨x.heap.size + 1 + 1, 0, none⟩) 0 0) []) := ws_le (D := B + 12) hW.out (by omega)
      clear hR hW
      go_wp2_with fail
      go_loopw [7, 10] (fun s t y => ∃ (k : Nat) (v7 : Value) (C : List Int), k ≤ 3 ∧ v7 = s ∧ t = .int .i64 k ∧ C.length = k ∧ Hid (WS r (B + 12 + 4 * k) x y a p n cap c l u L zf B0 E0 v6 R v7 C)) (fun _ t _ => 3 - (intOf t).toNat)
      case atStart => exact ⟨0, _, [], by omega, rfl, rfl, rfl, W0⟩
      case round =>
        clear W0
        obtain ⟨k, v7, C, hk, rfl, rfl, hR, hW⟩ := hrel
        by_cases hlt : k < 3
        · have hki : (k : Int) < 3 := by omega
          have hrd := hW.out.drawn.rd
          go_wp2_with fail
          refine (l71Word_any r (B + 12 + 4 * k) _ hrd (by omega)).mono ?_
          rintro e z1 ⟨nn, rfl, nn0, nn1, hD1⟩
          have W1 : Hid (WS r (B + 12 + 4 * k + 2) x z1 a p n cap c l u L zf B0 E0 v6 R v7 C) := hW.out.draw hD1
          clear hD1 hrd hW
          obtain ⟨_, b0, b1, b2, b3, b4, _⟩ := W1.out.box
          go_wp2_with fail
          clear b0 b1 b2 b3 b4
          refine (l11Some_any _ zf _ _ _ _ L _ _ _ W1.out.row).mono ?_
          rintro e z2 ⟨rfl, hb2⟩
          have W2 : Hid (WS r (B + 12 + 4 * k + 2) x z2 a p n cap c l u L zf B0 E0 v6 R v7 C) := W1.out.below hb2
          clear W1 hb2
          cases hso : (a && stOk a L (c, l, u))
          · skip
            obtain ⟨p9, cap9, w9, hrun, W9⟩ := W2.out.app7 38 (by omega) (nn)
            go_wp2_with (refine wpList_app rfl _ _ 38 rfl rfl rfl hrun ?_)
            have hkk : B + 12 + 4 * k + 2 ≤ B + 12 + 4 * (k + 1) ∧ B + 12 + 4 * k + 2 + 1 ≤ B + 12 + 4 * (k + 1) := by omega
            have W10 := ws_le (D := B + 12 + 4 * (k + 1)) W9.out (by omega)
            have hlen : (C ++ [nn]).length = k + 1 := by simp; omega
            have W11 := W10.out
            rw [hR] at W11
            go_roundw
            case rel => exact ⟨k + 1, _, _, by omega, rfl, by go_num, hlen, W11⟩
            case measure => simp [intOf]; omega
          · have hrd2 := W2.out.drawn.rd
            go_wp2_with fail
            refine (pick_any r (B + 12 + 4 * k + 2) 24 _ hrd2 (by omega) (by omega)).mono ?_
            rintro e z3 ⟨tt, rfl, tt0, tt1, hD3⟩
            have W3 : Hid (WS r (B + 12 + 4 * k + 2 + 1) x z3 a p n cap c l u L zf B0 E0 v6 R v7 C) := W2.out.draw hD3
            clear hD3 hrd2 W2
            by_cases htt : 0 < tt
            · have hst : stOk true L (c, l, u) = true := by cases a <;> simp_all
              obtain rfl : a = true := by cases a <;> simp_all
              have hf : someF (c, l, u) = true := by
                rcases ok_form hst with ⟨h0, _⟩ | ⟨_, s0, s1, s2, e, h0, h1, h2, h3⟩
                · cases h0
                · exact h3
              obtain ⟨lo, hi, hsp, h9a, h9b, h9c⟩ := some_form hf
              simp only [Prod.mk.injEq] at hsp
              obtain ⟨rfl, rfl, rfl⟩ := hsp
              have hd : Below z3.heap.size z3 z3.drew := (Below.refl _ _).drew
              have W4 : Hid (WS r (B + 12 + 4 * k + 2 + 1) x z3.drew true p n cap true l u L zf B0 E0 v6 R v7 C) := W3.out.below hd
              have hrx : r ≠ x.heap.size := by omega
              have bx := W4.out.box
              have bxl := bx.lt
              have b3 := bx.c3
              have b4 := bx.c4
              clear hf W3
              have hrd4 := W4.out.drawn.rd
              have s1_ : IntKind.i64.wrap (u - l) = u - l := IntWalk.i64_in _ (by omega)
              have s2_ : IntKind.i64.wrap (u - l + 1) = u - l + 1 := IntWalk.i64_in _ (by omega)
              go_wp2_with fail
              go_region_held3 (fun z => z.cell? ⟨x.heap.size, 3, none⟩ = some (.int .i64 l) ∧ z.cell? ⟨x.heap.size, 4, none⟩ = some (.int .i64 u)) (first | (with_reducible assumption) | exact ⟨b3, b4⟩ | fail) ((go_at_call 44; refine (pick_any r (B + 12 + 4 * k + 2 + 1) (u - l + 1) _ hrd4 (by omega) (by omega)).mono ?_; rintro e z5 ⟨v5, rfl, v50, v51, hD5⟩; have hS5 : (fun z => z.cell? ⟨x.heap.size, 3, none⟩ = some (.int .i64 l) ∧ z.cell? ⟨x.heap.size, 4, none⟩ = some (.int .i64 u)) z5 := ⟨hD5.cell x.heap.size 3 (by omega) bxl |>.trans b3, hD5.cell x.heap.size 4 (by omega) bxl |>.trans b4⟩; have s3_ : IntKind.i64.wrap (l + v5) = l + v5 := IntWalk.i64_in _ (by omega)))
              have W5 : Hid (WS r (B + 12 + 4 * k + 2 + 1 + 1) x z5 true p n cap true l u L zf B0 E0 v6 R v7 C) := W4.out.draw hD5
              clear W4 hD5 hrd4 hS5 bx bxl b3 b4
              obtain ⟨p9, cap9, w9, hrun, W9⟩ := W5.out.app7 38 (by omega) (l + v5)
              go_wp2_with (refine wpList_app rfl _ _ 38 rfl rfl rfl hrun ?_)
              have W10 := ws_le (D := B + 12 + 4 * (k + 1)) W9.out (by omega)
              have hlen : (C ++ [l + v5]).length = k + 1 := by simp; omega
              have W11 := W10.out
              rw [hR] at W11
              go_roundw
              case rel => exact ⟨k + 1, _, _, by omega, rfl, by go_num, hlen, W11⟩
              case measure => simp [intOf]; omega
            · skip
              obtain ⟨p9, cap9, w9, hrun, W9⟩ := W3.out.app7 38 (by omega) (nn)
              go_wp2_with (refine wpList_app rfl _ _ 38 rfl rfl rfl hrun ?_)
              have hkk : B + 12 + 4 * k + 2 ≤ B + 12 + 4 * (k + 1) ∧ B + 12 + 4 * k + 2 + 1 ≤ B + 12 + 4 * (k + 1) := by omega
              have W10 := ws_le (D := B + 12 + 4 * (k + 1)) W9.out (by omega)
              have hlen : (C ++ [nn]).length = k + 1 := by simp; omega
              have W11 := W10.out
              rw [hR] at W11
              go_roundw
              case rel => exact ⟨k + 1, _, _, by omega, rfl, by go_num, hlen, W11⟩
              case measure => simp [intOf]; omega
        · obtain rfl : k = 3 := by omega
          have hki : ¬ ((3 : Nat) : Int) < 3 := by omega
          go_wp2_with fail
          refine bodyPost_ret (v := .tuple #[v6, v7]) (by simp [results, Try.results43, go_sem]) rfl ?_
          exact ⟨_, _, R, C, rfl, hR3, hR, by have h9 := hW.out.o6; rw [hR3] at h9; exact h9, by have h9 := hW.out.o7; rw [hR] at h9; exact h9, hW.out.ne, hW.out.drawn.le (by omega)⟩
end Go.Proofs.Ytdomalclpjijaaa

/-
  The model's l11Both: what it hands back at any two states.
-/
namespace Go.Proofs.Ytdomalclpjijaaa
open Go.RowKit
set_option linter.unusedVariables false
set_option linter.unusedSimpArgs false

/-- in the loop: the boxes, the row that is written, the rows that are read -/
structure BothL (x y : World) (mo : Nat) (va vb vo : Value) (c : Bool) (l u : Int) (d : Bool) (l' u' : Int) (g o g' o' gO oO : Nat) (L M : List Sp) (N : Nat → Sp) : Prop where
  below : Below x.heap.size x y
  ba : Bx5 y x.heap.size (.bool true) va (.bool c) (.int .i64 l) (.int .i64 u)
  bb : Bx5 y (x.heap.size + 1) (.bool true) vb (.bool d) (.int .i64 l') (.int .i64 u')
  res : Bx5 y (x.heap.size + 1 + 1) (.bool false) (.slice none 0 0) (.bool false) (.int .i64 0) (.int .i64 0)
  out : Bx5 y mo (.bool true) vo (.bool c) (.int .i64 l) (.int .i64 u)
  hg : g < x.heap.size
  hg' : g' < x.heap.size
  lo : x.heap.size + 3 ≤ gO
  lt : gO < mo
  fz : ∀ k, y.frozen? ⟨gO, k, none⟩ = false
  sp : ∀ j, j < 3 → Spn y gO (oO + j * 3) (N j)
  la : ∀ j, j < 3 → Spn y g (o + j * 3) (L.getD j noSp)
  lm : ∀ j, j < 3 → Spn y g' (o' + j * 3) (M.getD j noSp)
theorem BothL.later {x y z : World} {mo : Nat} {va vb vo : Value} {c : Bool} {l u : Int} {d : Bool} {l' u' : Int} {g o g' o' gO oO : Nat} {L M : List Sp} {N : Nat → Sp} (h : BothL x y mo va vb vo c l u d l' u' g o g' o' gO oO L M N) (hb : Below y.heap.size y z) : BothL x z mo va vb vo c l u d l' u' g o g' o' gO oO L M N :=
  have hs := h.below.size
  have h1 := h.hg
  have h2 := h.hg'
  have h3 := h.lt
  have h4 := h.out.lt
  ⟨h.below.trans (hb.mono h.below.size), h.ba.later hb, h.bb.later hb, h.res.later hb, h.out.later hb, h1, h2, h.lo, h3, fun k => (hb.frozen (p := ⟨gO, k, none⟩) (by show gO < _; omega)).trans (h.fz k), fun j hj => (h.sp j hj).later hb (by omega), fun j hj => (h.la j hj).later hb (by omega), fun j hj => (h.lm j hj).later hb (by omega)⟩
theorem Spn.off3 {y : World} {g o : Nat} {s : Sp} (h : Spn y g o s) {gO oO : Nat} (v0 v1 v2 : Value) (hne : g ≠ gO ∨ o + 3 ≤ oO ∨ oO + 3 ≤ o) : Spn (set3 y gO oO v0 v1 v2) g o s :=
  ⟨(set3_miss _ _ _ _ _ _ _ _ (by omega)).trans h.c0, (set3_miss _ _ _ _ _ _ _ _ (by omega)).trans h.c1, (set3_miss _ _ _ _ _ _ _ _ (by omega)).trans h.c2⟩
theorem Bx5.off3 {y : World} {m : Nat} {w0 w1 w2 w3 w4 : Value} (h : Bx5 y m w0 w1 w2 w3 w4) {gO oO : Nat} (v0 v1 v2 : Value) (hne : gO ≠ m) : Bx5 (set3 y gO oO v0 v1 v2) m w0 w1 w2 w3 w4 :=
  ((h.off hne).off hne).off hne
/-- one span more is written -/
theorem BothL.set {x y : World} {mo : Nat} {va vb vo : Value} {c : Bool} {l u : Int} {d : Bool} {l' u' : Int} {g o g' o' gO oO : Nat} {L M : List Sp} {N : Nat → Sp} (h : BothL x y mo va vb vo c l u d l' u' g o g' o' gO oO L M N) (k : Nat) (hk : k < 3) (s : Sp) :
    BothL x (set3 y gO (oO + k * 3) (.bool s.1) (.int .i64 s.2.1) (.int .i64 s.2.2)) mo va vb vo c l u d l' u' g o g' o' gO oO L M (fun j => if j = k then s else N j) := by
  have h1 := h.hg
  have h2 := h.hg'
  have h3 := h.lt
  have h4 := h.lo
  refine ⟨set3_below h.below (by omega), h.ba.off3 _ _ _ (by omega), h.bb.off3 _ _ _ (by omega), h.res.off3 _ _ _ (by omega), h.out.off3 _ _ _ (by omega), h1, h2, h4, h3, fun q => (set3_frozen _ _ _ _ _ _ _).trans (h.fz q), fun j hj => ?_, fun j hj => (h.la j hj).off3 _ _ _ (.inl (by omega)), fun j hj => (h.lm j hj).off3 _ _ _ (.inl (by omega))⟩
  by_cases hjk : j = k
  · subst hjk
    rw [if_pos rfl]
    have q := h.sp j hj
    exact set3_hit _ _ _ _ ⟨_, q.c0⟩ ⟨_, q.c1⟩ ⟨_, q.c2⟩
  · rw [if_neg hjk]
    exact (h.sp j hj).off3 _ _ _ (.inr (by omega))
theorem BothL.same {x y : World} {mo : Nat} {va vb vo : Value} {c : Bool} {l u : Int} {d : Bool} {l' u' : Int} {g o g' o' gO oO : Nat} {L M : List Sp} {N N' : Nat → Sp} (h : BothL x y mo va vb vo c l u d l' u' g o g' o' gO oO L M N) (hN : ∀ j, j < 3 → N' j = N j) : BothL x y mo va vb vo c l u d l' u' g o g' o' gO oO L M N' :=
  ⟨h.below, h.ba, h.bb, h.res, h.out, h.hg, h.hg', h.lo, h.lt, h.fz, fun j hj => by rw [hN j hj]; exact h.sp j hj, h.la, h.lm⟩
theorem keep9 {w : World} {mo m1 m2 gO oO g o g' o' k : Nat} {vo va vb v0 v1 v2 : Value} {i0 j0 : Bool} {i1 i2 j1 j2 : Int} (h : (fun z => z.cell? ⟨mo, 1, none⟩ = some vo ∧ z.cell? ⟨m1, 1, none⟩ = some va ∧ z.cell? ⟨m2, 1, none⟩ = some vb ∧ z.cell? ⟨g, o + k * 3, none⟩ = some (.bool i0) ∧ z.cell? ⟨g, o + k * 3 + 1, none⟩ = some (.int .i64 i1) ∧ z.cell? ⟨g, o + k * 3 + 2, none⟩ = some (.int .i64 i2) ∧ z.cell? ⟨g', o' + k * 3, none⟩ = some (.bool j0) ∧ z.cell? ⟨g', o' + k * 3 + 1, none⟩ = some (.int .i64 j1) ∧ z.cell? ⟨g', o' + k * 3 + 2, none⟩ = some (.int .i64 j2)) w) (h1 : mo ≠ gO) (h2 : m1 ≠ gO) (h3 : m2 ≠ gO) (h4 : g ≠ gO) (h5 : g' ≠ gO) :
    (fun z => z.cell? ⟨mo, 1, none⟩ = some vo ∧ z.cell? ⟨m1, 1, none⟩ = some va ∧ z.cell? ⟨m2, 1, none⟩ = some vb ∧ z.cell? ⟨g, o + k * 3, none⟩ = some (.bool i0) ∧ z.cell? ⟨g, o + k * 3 + 1, none⟩ = some (.int .i64 i1) ∧ z.cell? ⟨g, o + k * 3 + 2, none⟩ = some (.int .i64 i2) ∧ z.cell? ⟨g', o' + k * 3, none⟩ = some (.bool j0) ∧ z.cell? ⟨g', o' + k * 3 + 1, none⟩ = some (.int .i64 j1) ∧ z.cell? ⟨g', o' + k * 3 + 2, none⟩ = some (.int .i64 j2)) (set3 w gO oO v0 v1 v2) := by
  obtain ⟨c0, c1, c2, d0, d1, d2, e0, e1, e2⟩ := h
  exact ⟨(set3_miss _ _ _ _ _ _ _ _ (.inl h1)).trans c0, (set3_miss _ _ _ _ _ _ _ _ (.inl h2)).trans c1, (set3_miss _ _ _ _ _ _ _ _ (.inl h3)).trans c2, (set3_miss _ _ _ _ _ _ _ _ (.inl h4)).trans d0, (set3_miss _ _ _ _ _ _ _ _ (.inl h4)).trans d1, (set3_miss _ _ _ _ _ _ _ _ (.inl h4)).trans d2, (set3_miss _ _ _ _ _ _ _ _ (.inl h5)).trans e0, (set3_miss _ _ _ _ _ _ _ _ (.inl h5)).trans e1, (set3_miss _ _ _ _ _ _ _ _ (.inl h5)).trans e2⟩

set_option maxHeartbeats 4000000 in
theorem l11Both_any (wd : Bool) (x : World) (z z' : Bool) (B E C D : Nat) (a : Bool) (v : Value) (L : List Sp) (c : Bool) (l u : Int) (b : Bool) (v' : Value) (M : List Sp) (d : Bool) (l' u' : Int) (h : SpsAt z x B E v L) (h' : SpsAt z' x C D v' M) :
    Calls Try.prog 31 #[.agg #[.bool a, v, .bool c, .int .i64 l, .int .i64 u], .agg #[.bool b, v', .bool d, .int .i64 l', .int .i64 u'], .bool wd] x fun e y => StAt (stBoth wd a L (c, l, u) b M (d, l', u')) x e y := by
  obtain ⟨p, cap, hv⟩ := h.shape
  obtain ⟨p', cap', hv'⟩ := h'.shape
  generalize hn : L.length = n at hv
  generalize hm : M.length = m at hv'
  subst hv hv'
  have HN : Hid (L.length = n) := hn
  have HM : Hid (M.length = m) := hm
  clear hn hm
  have hba : Below x.heap.size x (((x.alloc (.cells #[.bool a, .slice p n cap, .bool c, .int .i64 l, .int .i64 u] 31)).alloc (.cells #[.bool b, .slice p' m cap', .bool d, .int .i64 l', .int .i64 u'] 31)).alloc (.cells #[.bool false, .slice none 0 0, .bool false, .int .i64 0, .int .i64 0] 31)) := by go_grown
  have ka := ((Bx5.new x (.bool a) (.slice p n cap) (.bool c) (.int .i64 l) (.int .i64 u) 31).alloc (.cells #[.bool b, .slice p' m cap', .bool d, .int .i64 l', .int .i64 u'] 31)).alloc (.cells #[.bool false, .slice none 0 0, .bool false, .int .i64 0, .int .i64 0] 31)
  have kb := (Bx5.new (x.alloc (.cells #[.bool a, .slice p n cap, .bool c, .int .i64 l, .int .i64 u] 31)) (.bool b) (.slice p' m cap') (.bool d) (.int .i64 l') (.int .i64 u') 31).alloc (.cells #[.bool false, .slice none 0 0, .bool false, .int .i64 0, .int .i64 0] 31)
  have kr := Bx5.new ((x.alloc (.cells #[.bool a, .slice p n cap, .bool c, .int .i64 l, .int .i64 u] 31)).alloc (.cells #[.bool b, .slice p' m cap', .bool d, .int .i64 l', .int .i64 u'] 31)) (.bool false) (.slice none 0 0) (.bool false) (.int .i64 0) (.int .i64 0) 31
  simp only [World.size_alloc] at kb kr
  have h3 := h.later hba
  have h3' := h'.later hba
  cases hoa : stOk a L (c, l, u)
  · go_enter Try.func31, Try.ntmps31
    go_wp2_with fail
    refine (stOk_spec _ z B E _ _ L _ _ _ h3).mono ?_
    rintro e w1 ⟨rfl, hb⟩
    rw [hoa]
    replace hba := hba.trans (hb.mono hba.size)
    replace ka := ka.later hb
    replace kb := kb.later hb
    replace kr := kr.later hb
    replace h3 := h3.later hb
    replace h3' := h3'.later hb
    clear hb
    obtain ⟨_, a0, a1, a2, a3, a4, af⟩ := id ka
    obtain ⟨_, b0, b1, b2, b3, b4, bf⟩ := id kb
    obtain ⟨_, r0, r1, r2, r3, r4, rf⟩ := id kr
    go_wp2_with fail
    clear a0 a1 a2 a3 a4 af b0 b1 b2 b3 b4 bf r0 r1 r2 r3 r4 rf
    refine (none_spec _).mono ?_
    rintro e w5 ⟨v5, rfl, hS5, hb⟩
    obtain ⟨p5, cap5, hv5⟩ := hS5.shape
    subst hv5
    have hS := hS5
    replace hba := hba.trans (hb.mono hba.size)
    replace ka := ka.later hb
    replace kb := kb.later hb
    replace kr := kr.later hb
    replace h3 := h3.later hb
    replace h3' := h3'.later hb
    clear hb
    obtain ⟨_, r0, r1, r2, r3, r4, rf⟩ := id kr
    go_wp2_with fail
    refine bodyPost_ret (v := .agg #[.bool false, .slice p5 0 cap5, .bool false, .int .i64 0, .int .i64 0]) (by simp [results, Try.results31, go_sem, kr.lt, r0, r1, r2, r3, r4, rf]) rfl ?_
    rw [stB_no (by rw [hoa]; rfl)]
    refine ⟨_, rfl, SpsAt.nil, ?_⟩
    repeat (refine Below.setCell ?_ (by simp <;> omega) _)
    exact hba
  cases hob : stOk b M (d, l', u')
  · go_enter Try.func31, Try.ntmps31
    go_wp2_with fail
    refine (stOk_spec _ z B E _ _ L _ _ _ h3).mono ?_
    rintro e w1 ⟨rfl, hb⟩
    rw [hoa]
    replace hba := hba.trans (hb.mono hba.size)
    replace ka := ka.later hb
    replace kb := kb.later hb
    replace kr := kr.later hb
    replace h3 := h3.later hb
    replace h3' := h3'.later hb
    clear hb
    obtain ⟨_, a0, a1, a2, a3, a4, af⟩ := id ka
    obtain ⟨_, b0, b1, b2, b3, b4, bf⟩ := id kb
    obtain ⟨_, r0, r1, r2, r3, r4, rf⟩ := id kr
    go_wp2_with fail
    clear a0 a1 a2 a3 a4 af b0 b1 b2 b3 b4 bf r0 r1 r2 r3 r4 rf
    refine (stOk_spec _ z' C D _ _ M _ _ _ h3').mono ?_
    rintro e w2 ⟨rfl, hb⟩
    rw [hob]
    replace hba := hba.trans (hb.mono hba.size)
    replace ka := ka.later hb
    replace kb := kb.later hb
    replace kr := kr.later hb
    replace h3 := h3.later hb
    replace h3' := h3'.later hb
    clear hb
    obtain ⟨_, a0, a1, a2, a3, a4, af⟩ := id ka
    obtain ⟨_, b0, b1, b2, b3, b4, bf⟩ := id kb
    obtain ⟨_, r0, r1, r2, r3, r4, rf⟩ := id kr
    go_wp2_with fail
    clear a0 a1 a2 a3 a4 af b0 b1 b2 b3 b4 bf r0 r1 r2 r3 r4 rf
    refine (none_spec _).mono ?_
    rintro e w5 ⟨v5, rfl, hS5, hb⟩
    obtain ⟨p5, cap5, hv5⟩ := hS5.shape
    subst hv5
    have hS := hS5
    replace hba := hba.trans (hb.mono hba.size)
    replace ka := ka.later hb
    replace kb := kb.later hb
    replace kr := kr.later hb
    replace h3 := h3.later hb
    replace h3' := h3'.later hb
    clear hb
    obtain ⟨_, r0, r1, r2, r3, r4, rf⟩ := id kr
    go_wp2_with fail
    refine bodyPost_ret (v := .agg #[.bool false, .slice p5 0 cap5, .bool false, .int .i64 0, .int .i64 0]) (by simp [results, Try.results31, go_sem, kr.lt, r0, r1, r2, r3, r4, rf]) rfl ?_
    rw [stB_no (by rw [hoa, hob]; rfl)]
    refine ⟨_, rfl, SpsAt.nil, ?_⟩
    repeat (refine Below.setCell ?_ (by simp <;> omega) _)
    exact hba
  cases a
  · go_enter Try.func31, Try.ntmps31
    go_wp2_with fail
    refine (stOk_spec _ z B E _ _ L _ _ _ h3).mono ?_
    rintro e w1 ⟨rfl, hb⟩
    rw [hoa]
    replace hba := hba.trans (hb.mono hba.size)
    replace ka := ka.later hb
    replace kb := kb.later hb
    replace kr := kr.later hb
    replace h3 := h3.later hb
    replace h3' := h3'.later hb
    clear hb
    obtain ⟨_, a0, a1, a2, a3, a4, af⟩ := id ka
    obtain ⟨_, b0, b1, b2, b3, b4, bf⟩ := id kb
    obtain ⟨_, r0, r1, r2, r3, r4, rf⟩ := id kr
    go_wp2_with fail
    clear a0 a1 a2 a3 a4 af b0 b1 b2 b3 b4 bf r0 r1 r2 r3 r4 rf
    refine (stOk_spec _ z' C D _ _ M _ _ _ h3').mono ?_
    rintro e w2 ⟨rfl, hb⟩
    rw [hob]
    replace hba := hba.trans (hb.mono hba.size)
    replace ka := ka.later hb
    replace kb := kb.later hb
    replace kr := kr.later hb
    replace h3 := h3.later hb
    replace h3' := h3'.later hb
    clear hb
    obtain ⟨_, a0, a1, a2, a3, a4, af⟩ := id ka
    obtain ⟨_, b0, b1, b2, b3, b4, bf⟩ := id kb
    obtain ⟨_, r0, r1, r2, r3, r4, rf⟩ := id kr
    go_wp2_with fail
    clear a0 a1 a2 a3 a4 af b0 b1 b2 b3 b4 bf r0 r1 r2 r3 r4 rf
    refine (l11Copy_any _ z' C D _ _ M _ _ _ h3' (stOk_len0 hob)).mono ?_
    rintro e w5 ⟨v5, rfl, hS5, hb⟩
    obtain ⟨p5, cap5, hv5⟩ := hS5.shape
    subst hv5
    have hz5 := hba.size
    replace hba := hba.trans (hb.mono hba.size)
    replace ka := ka.later hb
    replace kb := kb.later hb
    replace kr := kr.later hb
    replace h3 := h3.later hb
    replace h3' := h3'.later hb
    clear hb
    obtain ⟨_, r0, r1, r2, r3, r4, rf⟩ := id kr
    generalize hq : M.length = q at hS5 ⊢
    have HS5 : Hid (SpsAt true w5 w2.heap.size w5.heap.size (.slice p5 q cap5) M) := hS5
    have hlt := kr.lt
    clear hS5 hq
    go_wp2_with fail
    refine bodyPost_ret (v := .agg #[.bool b, .slice p5 q cap5, .bool d, .int .i64 l', .int .i64 u']) (by simp [results, Try.results31, go_sem, hlt, r0, r1, r2, r3, r4, rf]) rfl ?_
    rw [stB_snd hoa hob]
    refine ⟨_, rfl, ?_, ?_⟩
    · refine SpsAt.wide (B := w2.heap.size) (E := w5.heap.size) ?_ (by omega) (by simp) (by simp)
      repeat (refine SpsAt.off ?_ (by omega))
      exact HS5.out
    · repeat (refine Below.setCell ?_ (by simp <;> omega) _)
      exact hba
  cases b
  · go_enter Try.func31, Try.ntmps31
    go_wp2_with fail
    refine (stOk_spec _ z B E _ _ L _ _ _ h3).mono ?_
    rintro e w1 ⟨rfl, hb⟩
    rw [hoa]
    replace hba := hba.trans (hb.mono hba.size)
    replace ka := ka.later hb
    replace kb := kb.later hb
    replace kr := kr.later hb
    replace h3 := h3.later hb
    replace h3' := h3'.later hb
    clear hb
    obtain ⟨_, a0, a1, a2, a3, a4, af⟩ := id ka
    obtain ⟨_, b0, b1, b2, b3, b4, bf⟩ := id kb
    obtain ⟨_, r0, r1, r2, r3, r4, rf⟩ := id kr
    go_wp2_with fail
    clear a0 a1 a2 a3 a4 af b0 b1 b2 b3 b4 bf r0 r1 r2 r3 r4 rf
    refine (stOk_spec _ z' C D _ _ M _ _ _ h3').mono ?_
    rintro e w2 ⟨rfl, hb⟩
    rw [hob]
    replace hba := hba.trans (hb.mono hba.size)
    replace ka := ka.later hb
    replace kb := kb.later hb
    replace kr := kr.later hb
    replace h3 := h3.later hb
    replace h3' := h3'.later hb
    clear hb
    obtain ⟨_, a0, a1, a2, a3, a4, af⟩ := id ka
    obtain ⟨_, b0, b1, b2, b3, b4, bf⟩ := id kb
    obtain ⟨_, r0, r1, r2, r3, r4, rf⟩ := id kr
    go_wp2_with fail
    clear a0 a1 a2 a3 a4 af b0 b1 b2 b3 b4 bf r0 r1 r2 r3 r4 rf
    refine (l11Copy_any _ z B E _ _ L _ _ _ h3 (stOk_len0 hoa)).mono ?_
    rintro e w5 ⟨v5, rfl, hS5, hb⟩
    obtain ⟨p5, cap5, hv5⟩ := hS5.shape
    subst hv5
    have hz5 := hba.size
    replace hba := hba.trans (hb.mono hba.size)
    replace ka := ka.later hb
    replace kb := kb.later hb
    replace kr := kr.later hb
    replace h3 := h3.later hb
    replace h3' := h3'.later hb
    clear hb
    obtain ⟨_, r0, r1, r2, r3, r4, rf⟩ := id kr
    generalize hq : L.length = q at hS5 ⊢
    have HS5 : Hid (SpsAt true w5 w2.heap.size w5.heap.size (.slice p5 q cap5) L) := hS5
    have hlt := kr.lt
    clear hS5 hq
    go_wp2_with fail
    refine bodyPost_ret (v := .agg #[.bool true, .slice p5 q cap5, .bool c, .int .i64 l, .int .i64 u]) (by simp [results, Try.results31, go_sem, hlt, r0, r1, r2, r3, r4, rf]) rfl ?_
    rw [stB_fst hoa hob rfl]
    refine ⟨_, rfl, ?_, ?_⟩
    · refine SpsAt.wide (B := w2.heap.size) (E := w5.heap.size) ?_ (by omega) (by simp) (by simp)
      repeat (refine SpsAt.off ?_ (by omega))
      exact HS5.out
    · repeat (refine Below.setCell ?_ (by simp <;> omega) _)
      exact hba
  have hn3 : n = 3 := HN.out.symm.trans (stOk_len' hoa)
  have hm3 : m = 3 := HM.out.symm.trans (stOk_len' hob)
  subst hn3 hm3
  obtain ⟨g, o, rfl, hgx, hl3⟩ := h.three HN.out
  obtain ⟨g', o', rfl, hgx', hl3'⟩ := h'.three HM.out
  have HX : Hid (∀ j, j < 3 → Spn x g (o + j * 3) (L.getD j noSp)) := hl3
  have HX' : Hid (∀ j, j < 3 → Spn x g' (o' + j * 3) (M.getD j noSp)) := hl3'
  clear hl3 hl3'
  go_enter Try.func31, Try.ntmps31
  go_wp2_with fail
  refine (stOk_spec _ z B E _ _ L _ _ _ h3).mono ?_
  rintro e w1 ⟨rfl, hb⟩
  rw [hoa]
  replace hba := hba.trans (hb.mono hba.size)
  replace ka := ka.later hb
  replace kb := kb.later hb
  replace kr := kr.later hb
  replace h3 := h3.later hb
  replace h3' := h3'.later hb
  clear hb
  obtain ⟨_, a0, a1, a2, a3, a4, af⟩ := id ka
  obtain ⟨_, b0, b1, b2, b3, b4, bf⟩ := id kb
  obtain ⟨_, r0, r1, r2, r3, r4, rf⟩ := id kr
  go_wp2_with fail
  clear a0 a1 a2 a3 a4 af b0 b1 b2 b3 b4 bf r0 r1 r2 r3 r4 rf
  refine (stOk_spec _ z' C D _ _ M _ _ _ h3').mono ?_
  rintro e w2 ⟨rfl, hb⟩
  rw [hob]
  replace hba := hba.trans (hb.mono hba.size)
  replace ka := ka.later hb
  replace kb := kb.later hb
  replace kr := kr.later hb
  replace h3 := h3.later hb
  replace h3' := h3'.later hb
  clear hb
  obtain ⟨_, a0, a1, a2, a3, a4, af⟩ := id ka
  obtain ⟨_, b0, b1, b2, b3, b4, bf⟩ := id kb
  obtain ⟨_, r0, r1, r2, r3, r4, rf⟩ := id kr
  go_wp2_with fail
  clear a0 a1 a2 a3 a4 af b0 b1 b2 b3 b4 bf r0 r1 r2 r3 r4 rf
  refine (l11Copy_any _ z B E _ _ L _ _ _ h3 (stOk_len0 hoa)).mono ?_
  rintro e w3 ⟨v5, rfl, hS5, hb⟩
  obtain ⟨p5, cap5, hv5⟩ := hS5.shape
  rw [HN.out] at hv5
  subst hv5
  obtain ⟨gO, oO, hp5, hgO0, hgO1, hfz, hlO⟩ : ∃ gO oO, p5 = some ⟨gO, oO, none⟩ ∧ w2.heap.size ≤ gO ∧ gO < w3.heap.size ∧ (∀ k, w3.frozen? ⟨gO, k, none⟩ = false) ∧ ∀ j, j < 3 → Spn w3 gO (oO + j * 3) (L.getD j noSp) := by
    obtain ⟨p1, cap1, hv1, _, hq⟩ := hS5
    injection hv1 with e1
    rcases hq with h0 | ⟨gO, oO, hp, h1, h2, _, h4, hj⟩
    · rw [HN.out] at h0; omega
    · rw [HN.out] at hj; exact ⟨gO, oO, e1.trans hp, h1, h2, h4 rfl, hj⟩
  subst hp5
  have hz3 := hba.size
  have hz4 := kr.lt
  replace hba := hba.trans (hb.mono hba.size)
  replace ka := ka.later hb
  replace kb := kb.later hb
  replace kr := kr.later hb
  replace h3 := h3.later hb
  replace h3' := h3'.later hb
  clear hb
  have hY : Below w3.heap.size w3 (w3.alloc (.cells #[.bool true, .slice (some ⟨gO, oO, none⟩) 3 cap5, .bool c, .int .i64 l, .int .i64 u] 31)) := (Below.refl _ _).alloc (Nat.le_refl _) _
  have E0 : Hid (BothL x (w3.alloc (.cells #[.bool true, .slice (some ⟨gO, oO, none⟩) 3 cap5, .bool c, .int .i64 l, .int .i64 u] 31)) w3.heap.size (.slice (some ⟨g, o, none⟩) 3 cap) (.slice (some ⟨g', o', none⟩) 3 cap') (.slice (some ⟨gO, oO, none⟩) 3 cap5) c l u d l' u' g o g' o' gO oO L M (fun j => if j < 0 then spF wd (L.getD j noSp) (M.getD j noSp) else L.getD j noSp)) :=
    ⟨hba.trans (hY.mono hba.size), ka.later hY, kb.later hY, kr.later hY, Bx5.new _ _ _ _ _ _ _, hgx, hgx', by omega, hgO1, fun k => (hY.frozen (p := ⟨gO, k, none⟩) hgO1).trans (hfz k), fun j hj => by rw [if_neg (by omega)]; exact (hlO j hj).later hY hgO1, fun j hj => ((HX.out j hj).later hba hgx).later hY (Nat.lt_of_lt_of_le hgx hba.size), fun j hj => ((HX'.out j hj).later hba hgx').later hY (Nat.lt_of_lt_of_le hgx' hba.size)⟩
  clear hY ka kb kr h3 h3' hS5 hlO hfz h h' hz3 hz4 hgO0 hgO1 HX HX' hba
  go_wp2_with fail
  generalize w3.alloc (.cells #[.bool true, .slice (some ⟨gO, oO, none⟩) 3 cap5, .bool c, .int .i64 l, .int .i64 u] 31) = Y at E0 ⊢
  go_loopw [8] (fun t y => ∃ k : Nat, k ≤ 3 ∧ t = .int .i64 k ∧ BothL x y w3.heap.size (.slice (some ⟨g, o, none⟩) 3 cap) (.slice (some ⟨g', o', none⟩) 3 cap') (.slice (some ⟨gO, oO, none⟩) 3 cap5) c l u d l' u' g o g' o' gO oO L M (fun j => if j < k then spF wd (L.getD j noSp) (M.getD j noSp) else L.getD j noSp)) (fun t _ => 3 - (intOf t).toNat)
  case atStart => exact ⟨0, by omega, rfl, E0.out⟩
  case round =>
    clear E0
    obtain ⟨k, hk, rfl, hE⟩ := hrel
    by_cases hlt : k < 3
    · have hki : (k : Int) < 3 := by omega
      have HE : Hid (BothL x wr.drew w3.heap.size (.slice (some ⟨g, o, none⟩) 3 cap) (.slice (some ⟨g', o', none⟩) 3 cap') (.slice (some ⟨gO, oO, none⟩) 3 cap5) c l u d l' u' g o g' o' gO oO L M (fun j => if j < k then spF wd (L.getD j noSp) (M.getD j noSp) else L.getD j noSp)) := hE.later ((Below.refl _ _).drew)
      clear hE
      obtain ⟨al, a0, a1, a2, a3, a4, _⟩ := HE.out.ba
      obtain ⟨bl, b0, b1, b2, b3, b4, _⟩ := HE.out.bb
      obtain ⟨ol, o0, o1, o2, o3, o4, _⟩ := HE.out.out
      obtain ⟨q0, q1, q2⟩ := HE.out.la k hlt
      obtain ⟨r0, r1, r2⟩ := HE.out.lm k hlt
      obtain ⟨s0, s1, s2⟩ := HE.out.sp k hlt
      have hgw : g < x.heap.size := hgx
      have hne : w3.heap.size ≠ gO ∧ x.heap.size ≠ gO ∧ x.heap.size + 1 ≠ gO ∧ g ≠ gO ∧ g' ≠ gO := by have h1 := HE.out.lo; have h2 := HE.out.lt; omega
      generalize hI : L.getD k noSp = I at q0 q1 q2
      have HI : Hid (L.getD k noSp = I) := hI
      clear hI
      generalize hJ : M.getD k noSp = J at r0 r1 r2
      have HJ : Hid (M.getD k noSp = J) := hJ
      clear hJ s0 s1 s2
      obtain ⟨i0, i1, i2⟩ := I
      obtain ⟨j0, j1, j2⟩ := J
      simp only at q0 q1 q2 r0 r1 r2
      obtain ⟨n0, n1, n2, hn0⟩ : ∃ n0 n1 n2, spF wd (i0, i1, i2) (j0, j1, j2) = (n0, n1, n2) := ⟨_, _, _, rfl⟩
      have HK : Hid (spF wd (i0, i1, i2) (j0, j1, j2) = (n0, n1, n2)) := hn0
      clear hn0
      go_wp2_with fail
      go_region_held3 (fun z => z.cell? ⟨w3.heap.size, 1, none⟩ = some (.slice (some ⟨gO, oO, none⟩) 3 cap5) ∧ z.cell? ⟨x.heap.size, 1, none⟩ = some (.slice (some ⟨g, o, none⟩) 3 cap) ∧ z.cell? ⟨x.heap.size + 1, 1, none⟩ = some (.slice (some ⟨g', o', none⟩) 3 cap') ∧ z.cell? ⟨g, o + k * 3, none⟩ = some (.bool i0) ∧ z.cell? ⟨g, o + k * 3 + 1, none⟩ = some (.int .i64 i1) ∧ z.cell? ⟨g, o + k * 3 + 2, none⟩ = some (.int .i64 i2) ∧ z.cell? ⟨g', o' + k * 3, none⟩ = some (.bool j0) ∧ z.cell? ⟨g', o' + k * 3 + 1, none⟩ = some (.int .i64 j1) ∧ z.cell? ⟨g', o' + k * 3 + 2, none⟩ = some (.int .i64 j2)) (first | (with_reducible assumption) | exact ⟨o1, a1, b1, q0, q1, q2, r0, r1, r2⟩ | exact keep9 (by with_reducible assumption) hne.1 hne.2.1 hne.2.2.1 hne.2.2.2.1 hne.2.2.2.2 | fail) ((go_at_call 55; refine (l11Span_at HK.out _).mono ?_; rintro e w5 ⟨rfl, hb5⟩; have HE5 : Hid (BothL x w5 w3.heap.size (.slice (some ⟨g, o, none⟩) 3 cap) (.slice (some ⟨g', o', none⟩) 3 cap') (.slice (some ⟨gO, oO, none⟩) 3 cap5) c l u d l' u' g o g' o' gO oO L M (fun j => if j < k then spF wd (L.getD j noSp) (M.getD j noSp) else L.getD j noSp)) := HE.out.later hb5; have tl := HE5.out.la k hlt; rw [HI.out] at tl; have tm := HE5.out.lm k hlt; rw [HJ.out] at tm; have hS5 : (fun z => z.cell? ⟨w3.heap.size, 1, none⟩ = some (.slice (some ⟨gO, oO, none⟩) 3 cap5) ∧ z.cell? ⟨x.heap.size, 1, none⟩ = some (.slice (some ⟨g, o, none⟩) 3 cap) ∧ z.cell? ⟨x.heap.size + 1, 1, none⟩ = some (.slice (some ⟨g', o', none⟩) 3 cap') ∧ z.cell? ⟨g, o + k * 3, none⟩ = some (.bool i0) ∧ z.cell? ⟨g, o + k * 3 + 1, none⟩ = some (.int .i64 i1) ∧ z.cell? ⟨g, o + k * 3 + 2, none⟩ = some (.int .i64 i2) ∧ z.cell? ⟨g', o' + k * 3, none⟩ = some (.bool j0) ∧ z.cell? ⟨g', o' + k * 3 + 1, none⟩ = some (.int .i64 j1) ∧ z.cell? ⟨g', o' + k * 3 + 2, none⟩ = some (.int .i64 j2)) w5 := ⟨HE5.out.out.c1, HE5.out.ba.c1, HE5.out.bb.c1, tl.c0, tl.c1, tl.c2, tm.c0, tm.c1, tm.c2⟩; obtain ⟨s0, s1, s2⟩ := HE5.out.sp k hlt; have f0 := HE5.out.fz (oO + k * 3); have f1 := HE5.out.fz (oO + k * 3 + 1); have f2 := HE5.out.fz (oO + k * 3 + 2); clear hb5 tl tm))
      have E6 : Hid (BothL x (set3 w5 gO (oO + k * 3) (.bool n0) (.int .i64 n1) (.int .i64 n2)) w3.heap.size (.slice (some ⟨g, o, none⟩) 3 cap) (.slice (some ⟨g', o', none⟩) 3 cap') (.slice (some ⟨gO, oO, none⟩) 3 cap5) c l u d l' u' g o g' o' gO oO L M (fun j => if j < k + 1 then spF wd (L.getD j noSp) (M.getD j noSp) else L.getD j noSp)) := (HE5.out.set k hlt (n0, n1, n2)).same fun j hj => by
        by_cases hjk : j = k
        · subst hjk; rw [if_pos (by omega), if_pos rfl, HI.out, HJ.out]; exact HK.out
        · rw [if_neg hjk]; by_cases h1 : j < k
          · rw [if_pos h1, if_pos (by omega)]
          · rw [if_neg h1, if_neg (by omega)]
      unfold set3 at E6
      generalize hW6 : ((w5.setCell ⟨gO, oO + k * 3, none⟩ (.bool n0)).setCell ⟨gO, oO + k * 3 + 1, none⟩ (.int .i64 n1)).setCell ⟨gO, oO + k * 3 + 2, none⟩ (.int .i64 n2) = w6 at E6 ⊢
      clear hW6 hS5 s0 s1 s2 f0 f1 f2 HE5 HE a0 a1 a2 a3 a4 b0 b1 b2 b3 b4 o0 o1 o2 o3 o4 q0 q1 q2 r0 r1 r2 hne al bl ol
      go_wp2_with fail
      go_roundw
      case rel => exact ⟨k + 1, by omega, by go_num, E6.out⟩
      case measure => simp [intOf]; omega
    · obtain rfl : k = 3 := by omega
      have hki : ¬ ((3 : Nat) : Int) < 3 := by omega
      have HE : Hid (BothL x wr w3.heap.size (.slice (some ⟨g, o, none⟩) 3 cap) (.slice (some ⟨g', o', none⟩) 3 cap') (.slice (some ⟨gO, oO, none⟩) 3 cap5) c l u d l' u' g o g' o' gO oO L M (fun j => if j < 3 then spF wd (L.getD j noSp) (M.getD j noSp) else L.getD j noSp)) := hE
      clear hE
      obtain ⟨al, a0, a1, a2, a3, a4, _⟩ := HE.out.ba
      obtain ⟨bl, b0, b1, b2, b3, b4, _⟩ := HE.out.bb
      obtain ⟨n0, n1, n2, hn0⟩ : ∃ n0 n1 n2, spF wd (c, l, u) (d, l', u') = (n0, n1, n2) := ⟨_, _, _, rfl⟩
      have HK : Hid (spF wd (c, l, u) (d, l', u') = (n0, n1, n2)) := hn0
      clear hn0
      go_wp2_with fail
      refine (l11Span_at HK.out _).mono ?_
      rintro e w5 ⟨rfl, hb5⟩
      have HE5 : Hid (BothL x w5 w3.heap.size (.slice (some ⟨g, o, none⟩) 3 cap) (.slice (some ⟨g', o', none⟩) 3 cap') (.slice (some ⟨gO, oO, none⟩) 3 cap5) c l u d l' u' g o g' o' gO oO L M (fun j => if j < 3 then spF wd (L.getD j noSp) (M.getD j noSp) else L.getD j noSp)) := HE.out.later hb5
      clear HE hb5 al a0 a1 a2 a3 a4 bl b0 b1 b2 b3 b4
      obtain ⟨ol, o0, o1, o2, o3, o4, of⟩ := HE5.out.out
      obtain ⟨rl, r0, r1, r2, r3, r4, rf⟩ := HE5.out.res
      have hne : x.heap.size + 1 + 1 ≠ w3.heap.size := by have h1 := HE5.out.lo; have h2 := HE5.out.lt; omega
      go_wp2_with fail
      refine bodyPost_ret (v := .agg #[.bool true, .slice (some ⟨gO, oO, none⟩) 3 cap5, .bool n0, .int .i64 n1, .int .i64 n2]) (by simp [results, Try.results31, go_sem, rl, ol, hne, Ne.symm hne, r0, r1, r2, r3, r4, rf]) rfl ?_
      rw [stB_all hoa hob, HK.out]
      have h1 := HE5.out.lo
      have h2 := HE5.out.lt
      refine ⟨_, rfl, ?_, ?_⟩
      · refine SpsAt.wide (B := x.heap.size + 3) (E := w3.heap.size) ?_ (by omega) (by simp; omega) (by simp)
        repeat (refine SpsAt.off ?_ (by omega))
        refine ⟨_, _, rfl, by unfold maxLen; simp [row3], .inr ⟨gO, oO, rfl, by omega, by omega, by omega, fun _ => HE5.out.fz, fun j hj => ?_⟩⟩
        have hj3 : j < 3 := by simpa [row3] using hj
        have q := HE5.out.sp j hj3
        rw [if_pos hj3] at q
        match j, hj3 with
        | 0, _ => exact q
        | 1, _ => exact q
        | 2, _ => exact q
        | j + 3, hj => omega
      · repeat (refine Below.setCell ?_ (by simp <;> omega) _)
        exact HE5.out.below
end Go.Proofs.Ytdomalclpjijaaa

/-
  The contract of l71State: a drawn state.
-/
namespace Go.Proofs.Ytdomalclpjijaaa
open Go.RowKit
set_option linter.unusedVariables false
set_option linter.unusedSimpArgs false

/-- the end: the state's box is read into the result's -/
structure GE (r B : Nat) (x y : World) (m : Nat) (a : Bool) (p : Option Addr) (n cap : Nat) (c : Bool) (l u : Int) (L : List Sp) : Prop where
  drawn : Drawn r B x y
  box : Bx5 y m (.bool a) (.slice p n cap) (.bool c) (.int .i64 l) (.int .i64 u)
  res : Bx5 y x.heap.size (.bool false) (.slice none 0 0) (.bool false) (.int .i64 0) (.int .i64 0)
  row : SpsAt true y (m + 1) y.heap.size (.slice p n cap) L
  len : L.length = n
  n3 : n ≤ 3
  lt : x.heap.size < m
  hr : r < x.heap.size
theorem drawn_set5 {r B q : Nat} {x y : World} {v0 v1 v2 v3 v4 : Value} (h : Drawn r B x y) (hq : x.heap.size ≤ q) (hr : r < x.heap.size) : Drawn r B x (((((y.setCell ⟨q, 0, none⟩ v0).setCell ⟨q, 1, none⟩ v1).setCell ⟨q, 2, none⟩ v2).setCell ⟨q, 3, none⟩ v3).setCell ⟨q, 4, none⟩ v4) :=
  h.more ((((((Below.refl q y).setCell (p := ⟨q, 0, none⟩) (Nat.le_refl _) _).setCell (p := ⟨q, 1, none⟩) (Nat.le_refl _) _).setCell (p := ⟨q, 2, none⟩) (Nat.le_refl _) _).setCell (p := ⟨q, 3, none⟩) (Nat.le_refl _) _).setCell (p := ⟨q, 4, none⟩) (Nat.le_refl _) _) hq hr
theorem GE.got {r B : Nat} {x y : World} {m : Nat} {a : Bool} {p : Option Addr} {n cap : Nat} {c : Bool} {l u : Int} {L : List Sp} (h : GE r B x y m a p n cap c l u L) (t : Nat) (ht : B ≤ t) :
    GotSt r t x (.returned (.agg #[.bool a, .slice p n cap, .bool c, .int .i64 l, .int .i64 u])) (((((y.setCell ⟨x.heap.size, 0, none⟩ (.bool a)).setCell ⟨x.heap.size, 1, none⟩ (.slice p n cap)).setCell ⟨x.heap.size, 2, none⟩ (.bool c)).setCell ⟨x.heap.size, 3, none⟩ (.int .i64 l)).setCell ⟨x.heap.size, 4, none⟩ (.int .i64 u)) := by
  have hl := h.len
  subst hl
  refine ⟨a, L, c, l, u, p, cap, rfl, h.n3, ?_, (drawn_set5 h.drawn (Nat.le_refl _) h.hr).le ht⟩
  have h1 := h.lt
  refine SpsAt.wide (B := m + 1) (E := y.heap.size) ?_ (by omega) (by simp) (by simp)
  have hm : x.heap.size < m + 1 ∨ y.heap.size ≤ x.heap.size := .inl (by omega)
  exact ((((h.row.off hm).off hm).off hm).off hm).off hm
theorem GD.ge {r B : Nat} {x y : World} {m : Nat} {p : Option Addr} {cap : Nat} {L : List Sp} {c : Bool} {l u : Int} (h : GD r B x y m p cap 3 L c l u) : GE r B x y m true p 3 cap c l u L := by
  obtain ⟨g, rfl, hg, hgl, hc, hf, hs⟩ := h.spans
  have h1 := h.lt
  refine ⟨h.drawn, h.box, h.res, ⟨_, _, by rw [h.len], by rw [h.len]; unfold maxLen; omega, .inr ⟨g, 0, rfl, by omega, hgl, Nat.le_refl _, fun _ => hf, fun j hj => ?_⟩⟩, h.len, by omega, h1, h.hr⟩
  rw [Nat.zero_add]
  exact hs j (by rw [h.len] at hj; exact hj)
theorem GE.draw {r B C : Nat} {x y z : World} {m : Nat} {a : Bool} {p : Option Addr} {n cap : Nat} {c : Bool} {l u : Int} {L : List Sp} (h : GE r B x y m a p n cap c l u L) (hd : Drawn r C y z) : GE r C x z m a p n cap c l u L :=
  have h1 := h.lt
  have h2 := h.hr
  ⟨h.drawn.trans hd, hd.bx5 h.box (by omega), hd.bx5 h.res (by omega), (hd.sps h.row (by omega)).wide (Nat.le_refl _) hd.size (Nat.le_refl _), h.len, h.n3, h1, h2⟩

theorem Bx5.set0 {x : World} {m : Nat} {v0 v1 v2 v3 v4 u : Value} (h : Bx5 x m v0 v1 v2 v3 v4) : Bx5 (x.setCell ⟨m, 0, none⟩ u) m u v1 v2 v3 v4 := by
  have far : ∀ k, k ≠ 0 → (x.setCell ⟨m, 0, none⟩ u).cell? ⟨m, k, none⟩ = x.cell? ⟨m, k, none⟩ := fun k hk => sc_other (by intro e; injection e; omega)
  exact ⟨by simpa using h.lt, sc_same h.c0, (far _ (by omega)).trans h.c1, (far _ (by omega)).trans h.c2, (far _ (by omega)).trans h.c3, (far _ (by omega)).trans h.c4, fun k => (World.frozen?_setCell _ _ _ _).trans (h.fz k)⟩
theorem Bx5.set2 {x : World} {m : Nat} {v0 v1 v2 v3 v4 u : Value} (h : Bx5 x m v0 v1 v2 v3 v4) : Bx5 (x.setCell ⟨m, 2, none⟩ u) m v0 v1 u v3 v4 := by
  have far : ∀ k, k ≠ 2 → (x.setCell ⟨m, 2, none⟩ u).cell? ⟨m, k, none⟩ = x.cell? ⟨m, k, none⟩ := fun k hk => sc_other (by intro e; injection e; omega)
  exact ⟨by simpa using h.lt, (far _ (by omega)).trans h.c0, (far _ (by omega)).trans h.c1, sc_same h.c2, (far _ (by omega)).trans h.c3, (far _ (by omega)).trans h.c4, fun k => (World.frozen?_setCell _ _ _ _).trans (h.fz k)⟩
theorem Bx5.set3' {x : World} {m : Nat} {v0 v1 v2 v3 v4 u : Value} (h : Bx5 x m v0 v1 v2 v3 v4) : Bx5 (x.setCell ⟨m, 3, none⟩ u) m v0 v1 v2 u v4 := by
  have far : ∀ k, k ≠ 3 → (x.setCell ⟨m, 3, none⟩ u).cell? ⟨m, k, none⟩ = x.cell? ⟨m, k, none⟩ := fun k hk => sc_other (by intro e; injection e; omega)
  exact ⟨by simpa using h.lt, (far _ (by omega)).trans h.c0, (far _ (by omega)).trans h.c1, (far _ (by omega)).trans h.c2, sc_same h.c3, (far _ (by omega)).trans h.c4, fun k => (World.frozen?_setCell _ _ _ _).trans (h.fz k)⟩
theorem Bx5.set4 {x : World} {m : Nat} {v0 v1 v2 v3 v4 u : Value} (h : Bx5 x m v0 v1 v2 v3 v4) : Bx5 (x.setCell ⟨m, 4, none⟩ u) m v0 v1 v2 v3 u := by
  have far : ∀ k, k ≠ 4 → (x.setCell ⟨m, 4, none⟩ u).cell? ⟨m, k, none⟩ = x.cell? ⟨m, k, none⟩ := fun k hk => sc_other (by intro e; injection e; omega)
  exact ⟨by simpa using h.lt, (far _ (by omega)).trans h.c0, (far _ (by omega)).trans h.c1, (far _ (by omega)).trans h.c2, (far _ (by omega)).trans h.c3, sc_same h.c4, fun k => (World.frozen?_setCell _ _ _ _).trans (h.fz k)⟩
/-- the state's own box is stored into -/
theorem GE.put {r B : Nat} {x y : World} {m : Nat} {a a' : Bool} {p : Option Addr} {n n' cap : Nat} {c c' : Bool} {l u l' u' : Int} {L L' : List Sp} (h : GE r B x y m a p n cap c l u L) (k : Nat) (v : Value) (hx : Bx5 (y.setCell ⟨m, k, none⟩ v) m (.bool a') (.slice p n' cap) (.bool c') (.int .i64 l') (.int .i64 u'))
    (hr : SpsAt true y (m + 1) y.heap.size (.slice p n' cap) L') (hl : L'.length = n') (hn : n' ≤ 3) : GE r B x (y.setCell ⟨m, k, none⟩ v) m a' p n' cap c' l' u' L' :=
  have h1 := h.lt
  ⟨h.drawn.more ((Below.refl m y).setCell (p := ⟨m, k, none⟩) (Nat.le_refl _) _) (by omega) h.hr, hx, h.res.off (by omega), (hr.off (.inl (by omega))).wide (Nat.le_refl _) (by simp) (Nat.le_refl _), hl, hn, h1, h.hr⟩
theorem sps_take2 {z : Bool} {x : World} {B E : Nat} {p : Option Addr} {cap : Nat} {L : List Sp} (h : SpsAt z x B E (.slice p 3 cap) L) (hl : L.length = 3) : SpsAt z x B E (.slice p 2 cap) (L.take 2) ∧ (L.take 2).length = 2 := by
  obtain ⟨s0, s1, s2, rfl⟩ := three_of hl
  obtain ⟨p1, cap1, hv, _, hq⟩ := h
  injection hv with e1 _ e3
  subst e1 e3
  refine ⟨⟨_, _, rfl, by unfold maxLen; simp, ?_⟩, rfl⟩
  rcases hq with h0 | ⟨g, o, hp, hB, hg, hE, hf, hj⟩
  · cases h0
  · refine .inr ⟨g, o, hp, hB, hg, hE, hf, fun j hj2 => ?_⟩
    match j, hj2 with
    | 0, _ => exact hj 0 (by simp)
    | 1, _ => exact hj 1 (by simp)
    | j + 2, hj2 => exact absurd hj2 (by simp)
/-- a span of the row is stored into -/
theorem GE.span {r B : Nat} {x y : World} {m : Nat} {a : Bool} {p : Option Addr} {cap g : Nat} {c : Bool} {l u : Int} {L : List Sp} (h : GE r B x y m a p 3 cap c l u L) (hp : p = some ⟨g, 0, none⟩) (hg : m + 1 ≤ g) (hgl : g < y.heap.size) (hf : ∀ k, y.frozen? ⟨g, k, none⟩ = false) (hs : ∀ j, j < 3 → Spn y g (j * 3) (L.getD j noSp)) (k : Nat) (hk : k < 3) (s : Sp) :
    ∃ L', GE r B x (set3 y g (k * 3) (.bool s.1) (.int .i64 s.2.1) (.int .i64 s.2.2)) m a p 3 cap c l u L' := by
  have h1 := h.lt
  obtain ⟨s0, s1, s2, hL⟩ := three_of h.len
  have hget : ∀ j, j < 3 → (L.set k s).getD j noSp = if j = k then s else L.getD j noSp := by
    intro j hj
    subst hL
    match k, hk, j, hj with
    | 0, _, 0, _ => rfl
    | 0, _, 1, _ => rfl
    | 0, _, 2, _ => rfl
    | 1, _, 0, _ => rfl
    | 1, _, 1, _ => rfl
    | 1, _, 2, _ => rfl
    | 2, _, 0, _ => rfl
    | 2, _, 1, _ => rfl
    | 2, _, 2, _ => rfl
    | k + 3, hk, _, _ => omega
    | _, _, j + 3, hj => omega
  have hlen : (L.set k s).length = 3 := by simp [h.len]
  refine ⟨L.set k s, h.drawn.more (set3_below (Below.refl m y) (by omega)) (by omega) h.hr, h.box.off3 _ _ _ (by omega), h.res.off3 _ _ _ (by omega), ⟨p, cap, by rw [hlen], by rw [hlen]; unfold maxLen; omega, .inr ⟨g, 0, hp, hg, by rw [set3_size]; exact hgl, Nat.le_refl _, fun _ q => (set3_frozen _ _ _ _ _ _ _).trans (hf q), fun j hj => ?_⟩⟩, hlen, by omega, h1, h.hr⟩
  have hj3 : j < 3 := by rw [hlen] at hj; exact hj
  rw [hget j hj3, Nat.zero_add]
  by_cases hjk : j = k
  · subst hjk
    rw [if_pos rfl]
    have q := hs j hj3
    exact set3_hit _ _ _ _ ⟨_, q.c0⟩ ⟨_, q.c1⟩ ⟨_, q.c2⟩
  · rw [if_neg hjk]
    exact (hs j hj3).off3 _ _ _ (.inr (by omega))

def RH (mk : Value → Value → Value → Value → Value → Value → Value → Value → Value → Value → Value → Value → Act) (r B : Nat) (w0 : World) (g : Nat) (V0 V1 V2 V4 V5 V7 : Value) (listed : Array Bool) (act : Act) (z : World) : Prop :=
  ∃ (b0 b1 b2 b3 b4 b5 b6 b7 b8 b9 b10 b11 b12 : Bool) (s0 s1 s2 s3 s4 s5 s6 s7 s8 s9 s10 s11 : Value), listed = #[b0, b1, b2, b3, b4, b5, b6, b7, b8, b9, b10, b11, b12] ∧ act = mk s0 s1 s2 s3 s4 s5 s6 s7 s8 s9 s10 s11 ∧
    Slot b0 s0 V0 ∧ Slot b1 s1 V1 ∧ Slot b2 s2 V2 ∧ Slot b4 s4 V4 ∧ Slot b5 s5 V5 ∧ Slot b7 s7 V7 ∧
    (b3 = true → ∃ k : Nat, k < 3 ∧ s3 = .int .i64 k) ∧ (b8 = true → ∃ k : Nat, k < 2 ∧ s8 = .int .i64 k) ∧
    (b12 = false → b6 = true → ∃ q, s6 = .slice (some ⟨q, 0, none⟩) 2 2 ∧ w0.heap.size ≤ q ∧ q < z.heap.size ∧ Spn z q 0 noSp ∧ Spn z q 3 (true, 3, 1)) ∧
    (b12 = false → b9 = true → ∃ q o s, s9 = .pointer (some ⟨q, o, none⟩) ∧ w0.heap.size ≤ q ∧ q < z.heap.size ∧ Spn z q o s) ∧
    (b10 = true → ∃ s : Sp, s10 = .agg #[.bool s.1, .int .i64 s.2.1, .int .i64 s.2.2]) ∧ (b11 = true → ∃ k : Nat, k < 3 ∧ s11 = .pointer (some ⟨g, k * 3, none⟩)) ∧
    (b12 = true → (b0 && b1 && b2 && b3 && b4 && b5 && b6 && b7 && b8 && b9 && b10 && b11) = true) ∧
    (b12 = false → ∃ C, C + (if b3 = true then 0 else 1) + (if b8 = true then 0 else 1) ≤ B + 2 ∧ Drawn r C w0 z) ∧
    (b12 = true → ∃ (s : Sp) (k : Nat) (z' : World), k < 3 ∧ Drawn r (B + 2) w0 z' ∧ z = set3 z' g (k * 3) (.bool s.1) (.int .i64 s.2.1) (.int .i64 s.2.2))

set_option maxRecDepth 100000 in
set_option maxHeartbeats 8000000 in
theorem l71State_any (r B : Nat) (x : World) (h : Rd x r B) (hB : B ≤ 60000) :
    Calls Try.prog 42 #[.pointer (some ⟨r, 0, none⟩)] x fun e y => GotSt r (B + 40) x e y := by
  have hr := h.lt
  have hA := drawn_alloc (.cells #[.bool false, .slice none 0 0, .bool false, .int .i64 0, .int .i64 0] 31) h
  have HR : Hid (Bx5 (x.alloc (.cells #[.bool false, .slice none 0 0, .bool false, .int .i64 0, .int .i64 0] 31)) x.heap.size (.bool false) (.slice none 0 0) (.bool false) (.int .i64 0) (.int .i64 0)) := Bx5.new _ _ _ _ _ _ _
  go_enter Try.func42, Try.ntmps42
  go_wp2_with fail
  refine (pick_any r B 12 _ hA.rd (by omega) (by omega)).mono ?_
  rintro e y1 ⟨t, rfl, t0, t1, hD1⟩
  have HD1 : Hid (Drawn r (B + 1) x y1) := hA.trans hD1
  have HR1 : Hid (Bx5 y1 x.heap.size (.bool false) (.slice none 0 0) (.bool false) (.int .i64 0) (.int .i64 0)) := hD1.bx5 HR.out (by omega)
  clear hD1 hA HR
  by_cases ht : t = 0
  · subst ht
    go_wp2_with fail
    refine (none_spec _).mono ?_
    rintro e y2 ⟨v5, rfl, hS5, hb⟩
    obtain ⟨p5, cap5, hv5⟩ := hS5.shape
    subst hv5
    have HD2 : Hid (Drawn r (B + 1) x y2) := HD1.out.more hb HD1.out.size hr
    have HR2 := HR1.out.later hb
    obtain ⟨rl, r0, r1, r2, r3, r4, rf⟩ := id HR2
    clear hb hS5 HD1 HR1
    go_wp2_with fail
    refine bodyPost_ret (v := .agg #[.bool false, .slice p5 0 cap5, .bool false, .int .i64 0, .int .i64 0]) (by simp [results, Try.results42, go_sem, rl, r0, r1, r2, r3, r4, rf]) rfl ?_
    exact ⟨_, [], _, _, _, _, _, rfl, by simp, SpsAt.nil, (drawn_set5 HD2.out (Nat.le_refl _) hr).le (by omega)⟩
  · have ht' : (t == 0) = false := by simp [ht]
    go_wp2_with fail
    refine (l71Some_any r (B + 1) _ HD1.out.rd (by omega)).mono ?_
    rintro e y2 hg
    obtain ⟨a1, l1, u1, rfl, _, _, _, _, hD2⟩ := hg.it
    have hs2 : x.heap.size < y2.heap.size := by have h1 := HR1.out.lt; have h2 := hD2.size; omega
    have E0 : ∃ p0 c0, Hid (p0 = none ∧ c0 = 0) ∧ GD r (B + 8) x (y2.alloc (.cells #[.bool true, .slice none 0 0, .bool a1, .int .i64 l1, .int .i64 u1] 31)) y2.heap.size p0 c0 0 [] a1 l1 u1 :=
      ⟨none, 0, ⟨rfl, rfl⟩, (HD1.out.trans (hD2.le (show B + 1 + 7 ≤ B + 8 by omega))).trans (drawn_alloc _ (hD2.rd.le (show B + 1 + 7 ≤ B + 8 by omega))), Bx5.new _ _ _ _ _ _ _, World.ownsRow_nil _ _ _ _, (hD2.bx5 HR1.out (by omega)).alloc _, hs2, hr, rfl⟩
    obtain ⟨p0, c0, H0, E0⟩ := E0
    have HE0 : Hid (GD r (B + 8) x (y2.alloc (.cells #[.bool true, .slice none 0 0, .bool a1, .int .i64 l1, .int .i64 u1] 31)) y2.heap.size p0 c0 0 [] a1 l1 u1) := E0
    clear E0 hg hD2 HD1 HR1
    go_wp2_with fail
    have HE1 : Hid (∃ p0 c0, GD r (B + 8) x (y2.alloc (.cells #[.bool true, .slice none 0 0, .bool a1, .int .i64 l1, .int .i64 u1] 31)) y2.heap.size p0 c0 0 [] a1 l1 u1) := ⟨p0, c0, HE0.out⟩
    clear HE0 H0
    generalize y2.alloc (.cells #[.bool true, .slice none 0 0, .bool a1, .int .i64 l1, .int .i64 u1] 31) = Y at HE1 ⊢
    go_loopw [4] (fun t y => ∃ (j : Nat) (p : Option Addr) (cap : Nat) (L : List Sp), j ≤ 3 ∧ t = .int .i64 j ∧ GD r (B + 8 + 7 * j) x y y2.heap.size p cap j L a1 l1 u1) (fun t _ => 3 - (intOf t).toNat)
    case atStart => obtain ⟨p0, c0, E0⟩ := HE1.out; exact ⟨0, p0, c0, [], by omega, rfl, E0⟩
    case round =>
      clear HE1
      obtain ⟨j, p, cap, L, hj3, rfl, hE⟩ := hrel
      by_cases hlt : j < 3
      · have hji : (j : Int) < 3 := by omega
        have HE : Hid (GD r (B + 8 + 7 * j) x wr.drew y2.heap.size p cap j L a1 l1 u1) := hE.drew
        clear hE
        have e1 := HE.out.box.c1
        go_wp2_with fail
        go_region_law (first
          | (refine step_app rfl (.tmp 17) (.tmp 20) 28 rfl ?hs ?hx hrun8 ?_
             (case hs => first | rfl | simp [Act.eval, Act.put])
             (case hx => first | rfl | simp [Act.eval, Act.put]))
          | (go_simp; go_at_call 62; refine (l71Some_any r (B + 8 + 7 * j) _ HE.out.drawn.rd (by omega)).mono ?_; rintro e w7 hg7; obtain ⟨a7, l7, u7, rfl, _, _, _, _, hD7⟩ := hg7.it
             obtain ⟨p8, cap8, w8, hrun8, hm8, c7, c8, cf8, E8⟩ := GD.app HE.out (by omega) 28 a7 l7 u7 hD7)
          | fail)
        all_goals
          clear HE e1 c7 c8 cf8 hrun8 hm8 hg7 hD7
          generalize w8.setCell ⟨y2.heap.size, 1, none⟩ (.slice p8 (j + 1) cap8) = wz at E8 ⊢
          go_wp2_with fail
          go_roundw
          case rel => exact ⟨j + 1, p8, cap8, _, by omega, by go_num, by have h9 := E8.out; rw [show B + 8 + 7 * j + 7 = B + 8 + 7 * (j + 1) by omega] at h9; exact h9⟩
          case measure => simp [intOf]; omega
      · obtain rfl : j = 3 := by omega
        have hji : ¬ ((3 : Nat) : Int) < 3 := by omega
        have HE : Hid (GD r (B + 29) x wr y2.heap.size p cap 3 L a1 l1 u1) := hE
        have hrd : Rd wr r (B + 29) := hE.drawn.rd
        clear hE
        go_wp2_with fail
        refine (pick_any r (B + 29) 24 _ hrd (by omega) (by omega)).mono ?_
        rintro e y3 ⟨v, rfl, v0, v1, hD3⟩
        have HE3 : Hid (GD r (B + 30) x y3 y2.heap.size p cap 3 L a1 l1 u1) := HE.out.draw hD3
        clear HE hD3 hrd
        by_cases hv : 0 < v
        · have hv1 : v = 0 ∨ v < 24 := by omega
          have HG : Hid (GE r (B + 30) x y3 y2.heap.size true p 3 cap a1 l1 u1 L) := HE3.out.ge
          obtain ⟨tl, t0_, t1_, t2_, t3_, t4_, _⟩ := HG.out.box
          obtain ⟨rl, r0, r1, r2, r3, r4, rf⟩ := HG.out.res
          go_wp2_with fail
          refine bodyPost_ret (v := .agg #[.bool true, .slice p 3 cap, .bool a1, .int .i64 l1, .int .i64 u1]) (by simp [results, Try.results42, go_sem, rl, r0, r1, r2, r3, r4, rf]) rfl ?_
          exact HG.out.got _ (by omega)
        · have hv2 : ¬ 0 < v := hv
          have hrd := HE3.out.drawn.rd
          go_wp2_with fail
          refine (pick_any r (B + 30) 4 _ hrd (by omega) (by omega)).mono ?_
          rintro e y4 ⟨k, rfl, k0, k1, hD4⟩
          have HE4 : Hid (GD r (B + 31) x y4 y2.heap.size p cap 3 L a1 l1 u1) := HE3.out.draw hD4
          clear HE3 hD4 hrd
          obtain ⟨bl, b0, b1, b2, b3, b4, bf⟩ := HE4.out.box
          have bf0 := bf 0
          have bf1 := bf 1
          have bf2 := bf 2
          have bf3 := bf 3
          have bf4 := bf 4
          have hml : x.heap.size < y2.heap.size := HE4.out.lt
          have hne : x.heap.size ≠ y2.heap.size := by omega
          obtain rfl | rfl | rfl | rfl : k = 0 ∨ k = 1 ∨ k = 2 ∨ k = 3 := by omega
          · skip
            obtain ⟨rl, r0, r1, r2, r3, r4, rf⟩ := HE4.out.res
            go_wp2_with fail
            have HG : Hid (GE r (B + 31) x (y4.setCell ⟨y2.heap.size, 0, none⟩ (.bool false)) y2.heap.size false p 3 cap a1 l1 u1 L) := HE4.out.ge.put 0 _ HE4.out.box.set0 HE4.out.ge.row HE4.out.len (by omega)
            refine bodyPost_ret (v := .agg #[.bool false, .slice p 3 cap, .bool a1, .int .i64 l1, .int .i64 u1]) (by simp [results, Try.results42, go_sem, rl, bl, hne, Ne.symm hne, r0, r1, r2, r3, r4, rf]) rfl ?_
            exact HG.out.got _ (by omega)
          · skip
            have hp3 : ∃ g, p = some ⟨g, 0, none⟩ ∧ 3 ≤ cap := by obtain ⟨g, hp, _, _, hc, _⟩ := HE4.out.spans; exact ⟨g, hp, hc⟩
            obtain ⟨g, rfl, hc3⟩ := hp3
            have hc2 : 2 ≤ cap := by omega
            have ht2 := sps_take2 HE4.out.ge.row HE4.out.len
            have HT2 : Hid (SpsAt true y4 (y2.heap.size + 1) y4.heap.size (.slice (some ⟨g, 0, none⟩) 2 cap) (L.take 2) ∧ (L.take 2).length = 2) := ht2
            clear ht2
            obtain ⟨rl, r0, r1, r2, r3, r4, rf⟩ := HE4.out.res
            go_wp2_with fail
            have HG : Hid (GE r (B + 31) x (y4.setCell ⟨y2.heap.size, 1, none⟩ (.slice (some ⟨g, 0, none⟩) 2 cap)) y2.heap.size true (some ⟨g, 0, none⟩) 2 cap a1 l1 u1 (L.take 2)) := HE4.out.ge.put 1 _ HE4.out.box.set1 HT2.out.1 HT2.out.2 (by omega)
            refine bodyPost_ret (v := .agg #[.bool true, .slice (some ⟨g, 0, none⟩) 2 cap, .bool a1, .int .i64 l1, .int .i64 u1]) (by simp [results, Try.results42, go_sem, rl, bl, hne, Ne.symm hne, r0, r1, r2, r3, r4, rf]) rfl ?_
            exact HG.out.got _ (by omega)
          · skip
            have hp3 := HE4.out.spans
            obtain ⟨g, rfl, hg0, hg1, hc3, hgf, hgs⟩ := hp3
            have HG0 : Hid ((∀ k, y4.frozen? ⟨g, k, none⟩ = false) ∧ ∀ j, j < 3 → Spn y4 g (j * 3) (L.getD j noSp)) := ⟨hgf, hgs⟩
            have hrg : r < g ∧ r < y2.heap.size := by have := HE4.out.hr; omega
            have hrd := HE4.out.drawn.rd
            have HB : Hid (Bx5 y4 y2.heap.size (.bool true) (.slice (some ⟨g, 0, none⟩) 3 cap) (.bool a1) (.int .i64 l1) (.int .i64 u1)) := HE4.out.box
            clear hgf hgs bl b0 b1 b2 b3 b4 bf bf0 bf1 bf2 bf3 bf4
            go_wp2_with fail
            refine wp_region_inv (by kernel_rfl) (by kernel_rfl) (RH (fun q0 q1 q2 q3 q4 q5 q6 q7 q8 q9 q10 q11 => ⟨#[.pointer (some ⟨r, 0, none⟩), undef, .pointer (some ⟨x.heap.size, 0, none⟩), .pointer (some ⟨y2.heap.size, 0, none⟩), .int .i64 3, .pointer (some ⟨r, 0, none⟩), .int .i64 t, .bool false, undef, .pointer (some ⟨r, 0, none⟩), .agg #[.bool a1, .int .i64 l1, .int .i64 u1], .agg #[.bool true, .slice none 0 0, .bool a1, .int .i64 l1, .int .i64 u1], .int .i64 3, .bool false, u14, u15, u16, u17, u18, u19, u20, u21, u22, .pointer (some ⟨r, 0, none⟩), .int .i64 v, .bool (decide (0 < v)), undef, .pointer (some ⟨r, 0, none⟩), .int .i64 2, undef, undef, .bool false, .bool false, undef, .bool false, .bool false, undef, undef, undef, undef, .bool true, .bool true, q0, q1, q2, q3, q4, q5, q6, q7, q8, q9, q10, q11, undef], []⟩) r (B + 31) y4.drew g (.pointer (some ⟨y2.heap.size, 1, none⟩)) (.slice (some ⟨g, 0, none⟩) 3 cap) (.pointer (some ⟨r, 0, none⟩)) (.agg #[.bool false, .int .i64 0, .int .i64 0]) (.agg #[.bool true, .int .i64 3, .int .i64 1]) (.pointer (some ⟨r, 0, none⟩))) ?start ?step ?fin
            case start => exact ⟨false, false, false, false, false, false, false, false, false, false, false, false, false, undef, undef, undef, undef, undef, undef, undef, undef, undef, undef, undef, undef, rfl, rfl, Slot.no, Slot.no, Slot.no, Slot.no, Slot.no, Slot.no, (fun h => by cases h), (fun h => by cases h), (fun _ h => by cases h), (fun _ h => by cases h), (fun h => by cases h), (fun h => by cases h), (fun h => by cases h), (fun _ => ⟨B + 31, by simp, drawn_first (drawn_first hrd).drewOne.rd⟩), (fun h => by cases h)⟩
            case step =>
              intro listed act z hI j o ho hun hpre
              obtain ⟨b0, b1, b2, b3, b4, b5, b6, b7, b8, b9, b10, b11, b12, s0, s1, s2, s3, s4, s5, s6, s7, s8, s9, s10, s11, rfl, rfl, h0, h1, h2, h4, h5, h7, P3, P8, P6, P9, P10, P11, hall, hC, hF⟩ := hI
              have hd : Drawn r (B + 31) y4 y4.drew := (drawn_first hrd).drewOne
              rcases j with _ | j
              · obtain rfl := Option.some.inj ho
                have e : b0 = false := hun
                subst e
                obtain rfl : b12 = false := by
                  cases b12
                  · rfl
                  · have := hall rfl; simp at this
                obtain ⟨C, hC1, hD⟩ := hC rfl
                refine wpOp_of ho rfl fun K hK => ?_
                clear ho hpre hun
                go_simp
                exact hK _ _ ⟨true, b1, b2, b3, b4, b5, b6, b7, b8, b9, b10, b11, false, _, s1, s2, s3, s4, s5, s6, s7, s8, s9, s10, s11, rfl, rfl, Slot.mk', h1, h2, h4, h5, h7, P3, P8, P6, P9, P10, P11, (fun h => by cases h), (fun _ => ⟨C, hC1, hD⟩), (fun h => by cases h)⟩
              rcases j with _ | j
              · obtain rfl := Option.some.inj ho
                have e : b1 = false := hun
                subst e
                obtain rfl : b12 = false := by
                  cases b12
                  · rfl
                  · have := hall rfl; simp at this
                obtain ⟨C, hC1, hD⟩ := hC rfl
                have q0 : b0 = true := hpre ⟨0, .data⟩ (by simp) rfl
                have e0 := h0.at_ q0
                subst e0
                refine wpOp_of ho rfl fun K hK => ?_
                clear ho hpre hun
                have cb := (hD.bx5 (hd.bx5 HB.out (by omega)) (by omega)).c1
                go_simp
                exact hK _ _ ⟨b0, true, b2, b3, b4, b5, b6, b7, b8, b9, b10, b11, false, _, _, s2, s3, s4, s5, s6, s7, s8, s9, s10, s11, rfl, rfl, h0, Slot.mk', h2, h4, h5, h7, P3, P8, P6, P9, P10, P11, (fun h => by cases h), (fun _ => ⟨C, hC1, hD⟩), (fun h => by cases h)⟩
              rcases j with _ | j
              · obtain rfl := Option.some.inj ho
                have e : b2 = false := hun
                subst e
                obtain rfl : b12 = false := by
                  cases b12
                  · rfl
                  · have := hall rfl; simp at this
                obtain ⟨C, hC1, hD⟩ := hC rfl
                refine wpOp_of ho rfl fun K hK => ?_
                clear ho hpre hun
                go_simp
                exact hK _ _ ⟨b0, b1, true, b3, b4, b5, b6, b7, b8, b9, b10, b11, false, s0, s1, _, s3, s4, s5, s6, s7, s8, s9, s10, s11, rfl, rfl, h0, h1, Slot.mk', h4, h5, h7, P3, P8, P6, P9, P10, P11, (fun h => by cases h), (fun _ => ⟨C, hC1, hD⟩), (fun h => by cases h)⟩
              rcases j with _ | j
              · obtain rfl := Option.some.inj ho
                have e : b3 = false := hun
                subst e
                obtain rfl : b12 = false := by
                  cases b12
                  · rfl
                  · have := hall rfl; simp at this
                obtain ⟨C, hC1, hD⟩ := hC rfl
                have q2 : b2 = true := hpre ⟨2, .data⟩ (by simp) rfl
                have e2 := h2.at_ q2
                subst e2
                refine wpOp_of ho rfl fun K hK => ?_
                clear ho hpre hun
                go_simp
                have hC2 : C ≤ B + 33 := by omega
                refine (pick_any r C 3 _ hD.rd (by omega) (by omega)).mono ?_
                rintro e z1 ⟨vv, rfl, vv0, vv1, hD1⟩
                obtain ⟨kk, rfl⟩ := Int.eq_ofNat_of_zero_le vv0
                have hk : kk < 3 := by omega
                exact hK _ _ ⟨b0, b1, b2, true, b4, b5, b6, b7, b8, b9, b10, b11, false, s0, s1, _, _, s4, s5, s6, s7, s8, s9, s10, s11, rfl, rfl, h0, h1, h2, h4, h5, h7, (fun _ => ⟨kk, hk, rfl⟩), P8, (fun h g => by obtain ⟨q, a1, a2, a3, a4, a5⟩ := P6 h g; exact ⟨q, a1, a2, Nat.lt_of_lt_of_le a3 hD1.size, hD1.spn a4 a3 (by have := hd.size; have := HB.out.lt; omega), hD1.spn a5 a3 (by have := hd.size; have := HB.out.lt; omega)⟩), (fun h g => by obtain ⟨q, o, s, a1, a2, a3, a4⟩ := P9 h g; exact ⟨q, o, s, a1, a2, Nat.lt_of_lt_of_le a3 hD1.size, hD1.spn a4 a3 (by have := hd.size; have := HB.out.lt; omega)⟩), P10, P11, (fun h => by cases h), (fun _ => ⟨C + 1, by simpa [Nat.add_assoc, Nat.add_comm, Nat.add_left_comm] using hC1, hD.trans hD1⟩), (fun h => by cases h)⟩
              rcases j with _ | j
              · obtain rfl := Option.some.inj ho
                have e : b4 = false := hun
                subst e
                obtain rfl : b12 = false := by
                  cases b12
                  · rfl
                  · have := hall rfl; simp at this
                obtain ⟨C, hC1, hD⟩ := hC rfl
                refine wpOp_of ho rfl fun K hK => ?_
                clear ho hpre hun
                go_simp
                exact hK _ _ ⟨b0, b1, b2, b3, true, b5, b6, b7, b8, b9, b10, b11, false, s0, s1, s2, s3, _, s5, s6, s7, s8, s9, s10, s11, rfl, rfl, h0, h1, h2, Slot.mk', h5, h7, P3, P8, P6, P9, P10, P11, (fun h => by cases h), (fun _ => ⟨C, hC1, hD⟩), (fun h => by cases h)⟩
              rcases j with _ | j
              · obtain rfl := Option.some.inj ho
                have e : b5 = false := hun
                subst e
                obtain rfl : b12 = false := by
                  cases b12
                  · rfl
                  · have := hall rfl; simp at this
                obtain ⟨C, hC1, hD⟩ := hC rfl
                refine wpOp_of ho rfl fun K hK => ?_
                clear ho hpre hun
                go_simp
                exact hK _ _ ⟨b0, b1, b2, b3, b4, true, b6, b7, b8, b9, b10, b11, false, s0, s1, s2, s3, s4, _, s6, s7, s8, s9, s10, s11, rfl, rfl, h0, h1, h2, h4, Slot.mk', h7, P3, P8, P6, P9, P10, P11, (fun h => by cases h), (fun _ => ⟨C, hC1, hD⟩), (fun h => by cases h)⟩
              rcases j with _ | j
              · obtain rfl := Option.some.inj ho
                have e : b6 = false := hun
                subst e
                obtain rfl : b12 = false := by
                  cases b12
                  · rfl
                  · have := hall rfl; simp at this
                obtain ⟨C, hC1, hD⟩ := hC rfl
                have q4 : b4 = true := hpre ⟨4, .data⟩ (by simp) rfl
                have q5 : b5 = true := hpre ⟨5, .data⟩ (by simp) rfl
                have e4 := h4.at_ q4
                subst e4
                have e5 := h5.at_ q5
                subst e5
                refine wpOp_of ho rfl fun K hK => ?_
                clear ho hpre hun
                go_simp
                have hA1 := (Below.refl z.heap.size z).alloc (Nat.le_refl _) (.cells #[.bool false, .int .i64 0, .int .i64 0, .bool true, .int .i64 3, .int .i64 1] 29)
                exact hK _ _ ⟨b0, b1, b2, b3, b4, b5, true, b7, b8, b9, b10, b11, false, s0, s1, s2, s3, _, _, _, s7, s8, s9, s10, s11, rfl, rfl, h0, h1, h2, h4, h5, h7, P3, P8, (fun _ _ => ⟨z.heap.size, rfl, hD.size, by simp, ⟨by simp [go_sem, noSp], by simp [go_sem, noSp], by simp [go_sem, noSp]⟩, ⟨by simp [go_sem], by simp [go_sem], by simp [go_sem]⟩⟩), (fun h g => by obtain ⟨q, o, s, a1, a2, a3, a4⟩ := P9 h g; exact ⟨q, o, s, a1, a2, Nat.lt_of_lt_of_le a3 hA1.size, a4.later hA1 a3⟩), P10, P11, (fun h => by cases h), (fun _ => ⟨C, hC1, hD.trans (drawn_alloc _ hD.rd)⟩), (fun h => by cases h)⟩
              rcases j with _ | j
              · obtain rfl := Option.some.inj ho
                have e : b7 = false := hun
                subst e
                obtain rfl : b12 = false := by
                  cases b12
                  · rfl
                  · have := hall rfl; simp at this
                obtain ⟨C, hC1, hD⟩ := hC rfl
                refine wpOp_of ho rfl fun K hK => ?_
                clear ho hpre hun
                go_simp
                exact hK _ _ ⟨b0, b1, b2, b3, b4, b5, b6, true, b8, b9, b10, b11, false, s0, s1, s2, s3, s4, s5, s6, _, s8, s9, s10, s11, rfl, rfl, h0, h1, h2, h4, h5, Slot.mk', P3, P8, P6, P9, P10, P11, (fun h => by cases h), (fun _ => ⟨C, hC1, hD⟩), (fun h => by cases h)⟩
              rcases j with _ | j
              · obtain rfl := Option.some.inj ho
                have e : b8 = false := hun
                subst e
                obtain rfl : b12 = false := by
                  cases b12
                  · rfl
                  · have := hall rfl; simp at this
                obtain ⟨C, hC1, hD⟩ := hC rfl
                have q7 : b7 = true := hpre ⟨7, .data⟩ (by simp) rfl
                have e7 := h7.at_ q7
                subst e7
                refine wpOp_of ho rfl fun K hK => ?_
                clear ho hpre hun
                go_simp
                have hC2 : C ≤ B + 33 := by omega
                refine (pick_any r C 2 _ hD.rd (by omega) (by omega)).mono ?_
                rintro e z1 ⟨vv, rfl, vv0, vv1, hD1⟩
                obtain ⟨kk, rfl⟩ := Int.eq_ofNat_of_zero_le vv0
                have hk : kk < 2 := by omega
                exact hK _ _ ⟨b0, b1, b2, b3, b4, b5, b6, b7, true, b9, b10, b11, false, s0, s1, s2, s3, s4, s5, s6, _, _, s9, s10, s11, rfl, rfl, h0, h1, h2, h4, h5, h7, P3, (fun _ => ⟨kk, hk, rfl⟩), (fun h g => by obtain ⟨q, a1, a2, a3, a4, a5⟩ := P6 h g; exact ⟨q, a1, a2, Nat.lt_of_lt_of_le a3 hD1.size, hD1.spn a4 a3 (by have := hd.size; have := HB.out.lt; omega), hD1.spn a5 a3 (by have := hd.size; have := HB.out.lt; omega)⟩), (fun h g => by obtain ⟨q, o, s, a1, a2, a3, a4⟩ := P9 h g; exact ⟨q, o, s, a1, a2, Nat.lt_of_lt_of_le a3 hD1.size, hD1.spn a4 a3 (by have := hd.size; have := HB.out.lt; omega)⟩), P10, P11, (fun h => by cases h), (fun _ => ⟨C + 1, by simpa [Nat.add_assoc, Nat.add_comm, Nat.add_left_comm] using hC1, hD.trans hD1⟩), (fun h => by cases h)⟩
              rcases j with _ | j
              · obtain rfl := Option.some.inj ho
                have e : b9 = false := hun
                subst e
                obtain rfl : b12 = false := by
                  cases b12
                  · rfl
                  · have := hall rfl; simp at this
                obtain ⟨C, hC1, hD⟩ := hC rfl
                have q6 : b6 = true := hpre ⟨6, .data⟩ (by simp) rfl
                have q8 : b8 = true := hpre ⟨8, .data⟩ (by simp) rfl
                refine wpOp_of ho rfl fun K hK => ?_
                obtain ⟨q, e6, a2, a3, a4, a5⟩ := P6 rfl q6
                obtain ⟨kk, hk, e8⟩ := P8 q8
                subst e6 e8
                have hki : (kk : Int) < 2 := by omega
                clear ho hpre hun
                go_simp
                have hsp : Spn z q (kk * 3) (if kk = 0 then noSp else (true, 3, 1)) := by
                  rcases (by omega : kk = 0 ∨ kk = 1) with rfl | rfl
                  · exact a4
                  · exact a5
                exact hK _ _ ⟨b0, b1, b2, b3, b4, b5, b6, b7, b8, true, b10, b11, false, s0, s1, s2, s3, s4, s5, _, s7, _, _, s10, s11, rfl, rfl, h0, h1, h2, h4, h5, h7, P3, (fun _ => ⟨kk, hk, rfl⟩), (fun _ _ => ⟨q, rfl, a2, a3, a4, a5⟩), (fun _ _ => ⟨q, kk * 3, _, rfl, a2, a3, hsp⟩), P10, P11, (fun h => by cases h), (fun _ => ⟨C, hC1, hD⟩), (fun h => by cases h)⟩
              rcases j with _ | j
              · obtain rfl := Option.some.inj ho
                have e : b10 = false := hun
                subst e
                obtain rfl : b12 = false := by
                  cases b12
                  · rfl
                  · have := hall rfl; simp at this
                obtain ⟨C, hC1, hD⟩ := hC rfl
                have q9 : b9 = true := hpre ⟨9, .data⟩ (by simp) rfl
                refine wpOp_of ho rfl fun K hK => ?_
                obtain ⟨q, oo, ⟨t0_, t1_, t2_⟩, e9, a2, a3, c0, c1, c2⟩ := P9 rfl q9
                subst e9
                simp only at c0 c1 c2
                clear ho hpre hun
                go_simp
                exact hK _ _ ⟨b0, b1, b2, b3, b4, b5, b6, b7, b8, b9, true, b11, false, s0, s1, s2, s3, s4, s5, s6, s7, s8, _, _, s11, rfl, rfl, h0, h1, h2, h4, h5, h7, P3, P8, P6, (fun _ _ => ⟨q, oo, (t0_, t1_, t2_), rfl, a2, a3, c0, c1, c2⟩), (fun _ => ⟨(t0_, t1_, t2_), rfl⟩), P11, (fun h => by cases h), (fun _ => ⟨C, hC1, hD⟩), (fun h => by cases h)⟩
              rcases j with _ | j
              · obtain rfl := Option.some.inj ho
                have e : b11 = false := hun
                subst e
                obtain rfl : b12 = false := by
                  cases b12
                  · rfl
                  · have := hall rfl; simp at this
                obtain ⟨C, hC1, hD⟩ := hC rfl
                have q1 : b1 = true := hpre ⟨1, .data⟩ (by simp) rfl
                have q3 : b3 = true := hpre ⟨3, .data⟩ (by simp) rfl
                have e1 := h1.at_ q1
                subst e1
                refine wpOp_of ho rfl fun K hK => ?_
                obtain ⟨kk, hk, e3⟩ := P3 q3
                subst e3
                have hki : (kk : Int) < 3 := by omega
                clear ho hpre hun
                go_simp
                exact hK _ _ ⟨b0, b1, b2, b3, b4, b5, b6, b7, b8, b9, b10, true, false, s0, _, s2, _, s4, s5, s6, s7, s8, s9, s10, _, rfl, rfl, h0, h1, h2, h4, h5, h7, (fun _ => ⟨kk, hk, rfl⟩), P8, P6, P9, P10, (fun _ => ⟨kk, hk, rfl⟩), (fun h => by cases h), (fun _ => ⟨C, hC1, hD⟩), (fun h => by cases h)⟩
              rcases j with _ | j
              · obtain rfl := Option.some.inj ho
                have e : b12 = false := hun
                subst e
                obtain ⟨C, hC1, hD⟩ := hC rfl
                have q0 : b0 = true := hpre ⟨0, .phase⟩ (by simp) rfl
                have q1 : b1 = true := hpre ⟨1, .phase⟩ (by simp) rfl
                have q2 : b2 = true := hpre ⟨2, .phase⟩ (by simp) rfl
                have q3 : b3 = true := hpre ⟨3, .phase⟩ (by simp) rfl
                have q4 : b4 = true := hpre ⟨4, .phase⟩ (by simp) rfl
                have q5 : b5 = true := hpre ⟨5, .phase⟩ (by simp) rfl
                have q6 : b6 = true := hpre ⟨6, .phase⟩ (by simp) rfl
                have q7 : b7 = true := hpre ⟨7, .phase⟩ (by simp) rfl
                have q8 : b8 = true := hpre ⟨8, .phase⟩ (by simp) rfl
                have q9 : b9 = true := hpre ⟨9, .phase⟩ (by simp) rfl
                have q10 : b10 = true := hpre ⟨10, .data⟩ (by simp) rfl
                have q11 : b11 = true := hpre ⟨11, .data⟩ (by simp) rfl
                obtain ⟨⟨t0_, t1_, t2_⟩, e10⟩ := P10 q10
                obtain ⟨kk, hk, e11⟩ := P11 q11
                subst e10 e11
                subst q0 q1 q2 q3 q4 q5 q6 q7 q8 q9 q10 q11
                refine wpOp_of ho rfl fun K hK => ?_
                clear ho hpre hun
                obtain ⟨c0, c1, c2⟩ := hD.spn (hd.spn (HG0.out.2 kk hk) hg1 (by omega)) (Nat.lt_of_lt_of_le hg1 hd.size) (by omega)
                have f0 := ((hD.frozen g (kk * 3 + 0) (by omega) (Nat.lt_of_lt_of_le hg1 hd.size)).trans (hd.frozen g (kk * 3 + 0) (by omega) hg1)).trans (HG0.out.1 _)
                have f1 := ((hD.frozen g (kk * 3 + 1) (by omega) (Nat.lt_of_lt_of_le hg1 hd.size)).trans (hd.frozen g (kk * 3 + 1) (by omega) hg1)).trans (HG0.out.1 _)
                have f2 := ((hD.frozen g (kk * 3 + 2) (by omega) (Nat.lt_of_lt_of_le hg1 hd.size)).trans (hd.frozen g (kk * 3 + 2) (by omega) hg1)).trans (HG0.out.1 _)
                simp only [Nat.add_zero] at f0
                go_simp
                exact hK _ _ ⟨true, true, true, true, true, true, true, true, true, true, true, true, true, s0, s1, s2, s3, s4, s5, s6, s7, s8, s9, _, _, rfl, rfl, h0, h1, h2, h4, h5, h7, P3, P8, (fun h => by cases h), (fun h => by cases h), (fun _ => ⟨(t0_, t1_, t2_), rfl⟩), (fun _ => ⟨kk, hk, rfl⟩), (fun _ => rfl), (fun h => by cases h), (fun _ => ⟨(t0_, t1_, t2_), kk, z, hk, hD.le (by simp at hC1; omega), rfl⟩)⟩
              cases ho
            case fin =>
              intro listed act z hI hfin
              obtain ⟨b0, b1, b2, b3, b4, b5, b6, b7, b8, b9, b10, b11, b12, s0, s1, s2, s3, s4, s5, s6, s7, s8, s9, s10, s11, rfl, rfl, _, _, _, _, _, _, _, _, _, _, _, _, _, _, hF⟩ := hI
              obtain ⟨s, kk, z1, hk, hD, rfl⟩ := hF (hfin 12 (by simp))
              clear hfin hF
              have hd : Drawn r (B + 31) y4 y4.drew := (drawn_first hrd).drewOne
              have hgz := Nat.lt_of_lt_of_le (Nat.lt_of_lt_of_le hg1 hd.size) hD.size
              obtain ⟨L2, hE2⟩ := ((HE4.out.ge.draw hd).draw hD).span rfl hg0 hgz (fun k => ((hD.frozen g k (by omega) (Nat.lt_of_lt_of_le hg1 hd.size)).trans (hd.frozen g k (by omega) hg1)).trans (HG0.out.1 _)) (fun j hj => hD.spn (hd.spn (HG0.out.2 j hj) hg1 (by omega)) (Nat.lt_of_lt_of_le hg1 hd.size) (by omega)) kk hk s
              have HG : Hid (GE r (B + 33) x (set3 z1 g (kk * 3) (.bool s.1) (.int .i64 s.2.1) (.int .i64 s.2.2)) y2.heap.size true (some ⟨g, 0, none⟩) 3 cap a1 l1 u1 L2) := hE2
              clear hE2 HE4 HB HG0 hD hd hrd hgz hg1
              generalize set3 z1 g (kk * 3) (.bool s.1) (.int .i64 s.2.1) (.int .i64 s.2.2) = Z at HG ⊢
              obtain ⟨tl, t0_, t1_, t2_, t3_, t4_, _⟩ := HG.out.box
              obtain ⟨rl, r0, r1, r2, r3, r4, rf⟩ := HG.out.res
              go_wp2_with fail
              refine bodyPost_ret (v := .agg #[.bool true, .slice (some ⟨g, 0, none⟩) 3 cap, .bool a1, .int .i64 l1, .int .i64 u1]) (by simp [results, Try.results42, go_sem, rl, r0, r1, r2, r3, r4, rf]) rfl ?_
              exact HG.out.got _ (by omega)
          · skip
            obtain ⟨rl, r0, r1, r2, r3, r4, rf⟩ := HE4.out.res
            go_wp2_with fail
            have HG : Hid (GE r (B + 31) x (((y4.setCell ⟨y2.heap.size, 2, none⟩ (.bool false)).setCell ⟨y2.heap.size, 3, none⟩ (.int .i64 0)).setCell ⟨y2.heap.size, 4, none⟩ (.int .i64 0)) y2.heap.size true p 3 cap false 0 0 L) := ((HE4.out.ge.put 2 _ HE4.out.box.set2 HE4.out.ge.row HE4.out.len (by omega)).put 3 _ HE4.out.box.set2.set3' (HE4.out.ge.put 2 _ HE4.out.box.set2 HE4.out.ge.row HE4.out.len (by omega)).row HE4.out.len (by omega)).put 4 _ HE4.out.box.set2.set3'.set4 ((HE4.out.ge.put 2 _ HE4.out.box.set2 HE4.out.ge.row HE4.out.len (by omega)).put 3 _ HE4.out.box.set2.set3' (HE4.out.ge.put 2 _ HE4.out.box.set2 HE4.out.ge.row HE4.out.len (by omega)).row HE4.out.len (by omega)).row HE4.out.len (by omega)
            refine bodyPost_ret (v := .agg #[.bool true, .slice p 3 cap, .bool false, .int .i64 0, .int .i64 0]) (by simp [results, Try.results42, go_sem, rl, bl, hne, Ne.symm hne, r0, r1, r2, r3, r4, rf]) rfl ?_
            exact HG.out.got _ (by omega)
end Go.Proofs.Ytdomalclpjijaaa
