/-
  The contract of l71Within: registers and cells drawn for a state.
-/
import Derived.Test.YtbmjjmbimfdkoaaSWs
import Derived.Test.YtbmjjmbimfdkoaaSMathJ
namespace Go.Proofs.Ytbmjjmbimfdkoaa
open Go.RowKit
set_option linter.unusedVariables false
set_option linter.unusedSimpArgs false

/-- two drawn rows of three numbers -/
structure GotW (r B : Nat) (x : World) (e : Ending) (y : World) : Prop where
  it : ∃ (v6 v7 : Value) (R C : List Int), e = .returned (.tuple #[v6, v7]) ∧ R.length = 3 ∧ C.length = 3 ∧ y.ownsRow (x.heap.size + 1) 3 1 v6 3 (intV R) ∧ y.ownsRow (x.heap.size + 1) 3 1 v7 3 (intV C) ∧ (∀ k, v6.ownBlock = some k → v7.ownBlock ≠ some k) ∧ Drawn r B x y
theorem owns_empty (y : World) (base g : Nat) (h : y.heap[g]? = some (.cells #[] 3 (0, 0))) (hg : base ≤ g) : y.ownsRow base 3 1 (.slice (some ⟨g, 0, none⟩) 0 0) 0 [] :=
  ⟨rfl, .inr ⟨g, 0, #[], rfl, hg, h, Nat.le_refl _, by unfold maxLen; omega, rfl, rfl⟩⟩
theorem ws_le {r B D : Nat} {x y : World} {a : Bool} {p : Option Addr} {n cap : Nat} {c : Bool} {l u : Int} {L : List Sp} {zf : Bool} {B0 E0 : Nat} {v6 : Value} {R : List Int} {v7 : Value} {C : List Int} (h : WS r B x y a p n cap c l u L zf B0 E0 v6 R v7 C) (hd : B ≤ D) : Hid (WS r D x y a p n cap c l u L zf B0 E0 v6 R v7 C) :=
  (⟨h.drawn.le hd, h.box, h.row, h.o6, h.o7, h.ne, h.hr, h.hB⟩ : WS r D x y a p n cap c l u L zf B0 E0 v6 R v7 C)
set_option maxRecDepth 100000 in
set_option maxHeartbeats 8000000 in
theorem l71Within_any (r B : Nat) (x : World) (zf : Bool) (B0 E0 : Nat) (a : Bool) (v : Value) (L : List Sp) (c : Bool) (l u : Int) (h : Rd x r B) (hB : B ≤ 50000) (hs : SpsAt zf x B0 E0 v L) (hB0 : r < B0 ∧ E0 ≤ x.heap.size) :
    Calls Try.prog 68 #[.pointer (some ⟨r, 0, none⟩), .agg #[.bool a, v, .bool c, .int .i64 l, .int .i64 u]] x fun e y => GotW r (B + 30) x e y := by
  obtain ⟨p, cap, hv⟩ := hs.shape
  generalize hn : L.length = n at hv
  subst hv
  have HN : Hid (L.length = n) := hn
  clear hn
  have hr := h.lt
  have hA1 := drawn_alloc (.cells #[.bool a, .slice p n cap, .bool c, .int .i64 l, .int .i64 u] 32) h
  have hA2 := hA1.trans (drawn_alloc (.cells #[] 3) hA1.rd)
  have hA3 := hA2.trans (drawn_alloc (.cells #[] 3) hA2.rd)
  have hb0 : Below x.heap.size x (((x.alloc (.cells #[.bool a, .slice p n cap, .bool c, .int .i64 l, .int .i64 u] 32)).alloc (.cells #[] 3)).alloc (.cells #[] 3)) := by go_grown
  have W0 : Hid (WS r (B) x (((x.alloc (.cells #[.bool a, .slice p n cap, .bool c, .int .i64 l, .int .i64 u] 32)).alloc (.cells #[] 3)).alloc (.cells #[] 3)) a p n cap c l u L zf B0 E0 (.slice (some ⟨x.heap.size + 1, 0, none⟩) 0 0) [] (.slice (some ⟨x.heap.size + 1 + 1, 0, none⟩) 0 0) []) := ⟨hA3, ((Bx5.new x _ _ _ _ _ _).alloc _).alloc _, hs.later hb0, owns_empty _ _ _ ((Below.heap_alloc _ _ _ (by simp)).trans (by have h9 := World.alloc_heap_new (x.alloc (.cells #[.bool a, .slice p n cap, .bool c, .int .i64 l, .int .i64 u] 32)) (.cells #[] 3); rw [World.size_alloc] at h9; exact h9)) (Nat.le_refl _), owns_empty _ _ _ (by have h9 := World.alloc_heap_new ((x.alloc (.cells #[.bool a, .slice p n cap, .bool c, .int .i64 l, .int .i64 u] 32)).alloc (.cells #[] 3)) (.cells #[] 3); rw [World.size_alloc, World.size_alloc] at h9; exact h9) (by omega), (fun k h1 h2 => by simp [Value.ownBlock] at h1 h2; omega), hr, hB0⟩
  clear hA1 hA2 hA3 hb0 hs h
  go_enter Try.func68, Try.ntmps68
  go_wp2_with fail
  generalize (((x.alloc (.cells #[.bool a, .slice p n cap, .bool c, .int .i64 l, .int .i64 u] 32)).alloc (.cells #[] 3)).alloc (.cells #[] 3)) = Y at W0 ⊢
  go_loopw [6, 8] (fun s t y => ∃ (k : Nat) (v6 : Value) (R : List Int), k ≤ 3 ∧ v6 = s ∧ t = .int .i64 k ∧ R.length = k ∧ Hid (WS r (B + 4 * k) x y a p n cap c l u L zf B0 E0 v6 R (.slice (some ⟨x.heap.size + 1 + 1, 0, none⟩) 0 0) [])) (fun _ t _ => 3 - (intOf t).toNat)
  case atStart => exact ⟨0, _, [], by omega, rfl, rfl, rfl, W0⟩
  case round =>
    clear W0
    obtain ⟨k, v6, R, hk, rfl, rfl, hR, hW⟩ := hrel
    by_cases hlt : k < 3
    · have hki : (k : Int) < 3 := by omega
      have hrd := hW.out.drawn.rd
      go_wp2_with fail
      refine (l71Word_any r (B + 4 * k) _ hrd (by omega)).mono ?_
      rintro e z1 ⟨nn, rfl, nn0, nn1, hD1⟩
      have W1 : Hid (WS r (B + 4 * k + 2) x z1 a p n cap c l u L zf B0 E0 v6 R (.slice (some ⟨x.heap.size + 1 + 1, 0, none⟩) 0 0) []) := hW.out.draw hD1
      clear hD1 hrd hW
      obtain ⟨_, b0, b1, b2, b3, b4, _⟩ := W1.out.box
      go_wp2_with fail
      clear b0 b1 b2 b3 b4
      refine (l11Some_any _ zf _ _ _ _ L _ _ _ W1.out.row).mono ?_
      rintro e z2 ⟨rfl, hb2⟩
      have W2 : Hid (WS r (B + 4 * k + 2) x z2 a p n cap c l u L zf B0 E0 v6 R (.slice (some ⟨x.heap.size + 1 + 1, 0, none⟩) 0 0) []) := W1.out.below hb2
      clear W1 hb2
      cases hso : (a && stOk a L (c, l, u))
      · skip
        obtain ⟨p9, cap9, w9, hrun, W9⟩ := W2.out.app6 39 (by omega) (nn)
        go_wp2_with (refine wpList_app rfl _ _ 39 rfl rfl rfl hrun ?_)
        have hkk : B + 4 * k + 2 ≤ B + 4 * (k + 1) ∧ B + 4 * k + 2 + 1 ≤ B + 4 * (k + 1) := by omega
        have W10 := ws_le (D := B + 4 * (k + 1)) W9.out (by omega)
        have hlen : (R ++ [nn]).length = k + 1 := by simp; omega
        have W11 := W10.out
        rw [hR] at W11
        go_roundw
        case rel => exact ⟨k + 1, _, _, by omega, rfl, by go_num, hlen, W11⟩
        case measure => simp [intOf]; omega
      · have hrd2 := W2.out.drawn.rd
        go_wp2_with fail
        refine (pick_any r (B + 4 * k + 2) 24 _ hrd2 (by omega) (by omega)).mono ?_
        rintro e z3 ⟨tt, rfl, tt0, tt1, hD3⟩
        have W3 : Hid (WS r (B + 4 * k + 2 + 1) x z3 a p n cap c l u L zf B0 E0 v6 R (.slice (some ⟨x.heap.size + 1 + 1, 0, none⟩) 0 0) []) := W2.out.draw hD3
        clear hD3 hrd2 W2
        by_cases htt : 0 < tt
        · have hst : stOk true L (c, l, u) = true := by cases a <;> simp_all
          obtain rfl : a = true := by cases a <;> simp_all
          have hf : ∃ s0 s1 s2, L = [s0, s1, s2] ∧ someF s0 = true ∧ someF s1 = true ∧ someF s2 = true := by
            rcases ok_form hst with ⟨h0, _⟩ | ⟨_, s0, s1, s2, e, h0, h1, h2, _⟩
            · cases h0
            · exact ⟨s0, s1, s2, e, h0, h1, h2⟩
          have hk9 : someF (L.getD k noSp) = true := by
            obtain ⟨s0, s1, s2, rfl, h0, h1, h2⟩ := hf
            match k, hlt with
            | 0, _ => exact h0
            | 1, _ => exact h1
            | 2, _ => exact h2
            | k + 3, hh => omega
          have hn3 : n = 3 := HN.out.symm.trans (stOk_len' hst)
          subst hn3
          obtain ⟨lo, hi, hsp, h9a, h9b, h9c⟩ := some_form hk9
          have hd : Below z3.heap.size z3 z3.drew := (Below.refl _ _).drew
          have W4 : Hid (WS r (B + 4 * k + 2 + 1) x z3.drew true p 3 cap c l u L zf B0 E0 v6 R (.slice (some ⟨x.heap.size + 1 + 1, 0, none⟩) 0 0) []) := W3.out.below hd
          obtain ⟨g, oo, rfl, hgx, hgs⟩ := W4.out.row.three HN.out
          have hrg : r ≠ g := by have h9 := W4.out.row; obtain ⟨p8, c8, e8, _, hq8⟩ := h9; injection e8 with e8; rcases hq8 with h0 | ⟨g8, o8, hp8, hB8, _⟩; (rw [HN.out] at h0; omega); (rw [hp8] at e8; injection e8 with e8; injection e8 with e8; have := W4.out.hB.1; omega)
          obtain ⟨q0, q1, q2⟩ := hgs k hlt
          rw [hsp] at q0 q1 q2
          simp only at q0 q1 q2
          have hrx : r ≠ x.heap.size := by omega
          have bx := W4.out.box
          have bxl := bx.lt
          have b1 := bx.c1
          clear hf hk9 hsp hgs W3
          have hrd4 := W4.out.drawn.rd
          have s1_ : IntKind.i64.wrap (hi - lo) = hi - lo := IntWalk.i64_in _ (by omega)
          have s2_ : IntKind.i64.wrap (hi - lo + 1) = hi - lo + 1 := IntWalk.i64_in _ (by omega)
          go_wp2_with fail
          go_region_held3 (fun z => z.cell? ⟨x.heap.size, 1, none⟩ = some (.slice (some ⟨g, oo, none⟩) 3 cap) ∧ z.cell? ⟨g, oo + k * 3 + 1, none⟩ = some (.int .i64 lo) ∧ z.cell? ⟨g, oo + k * 3 + 2, none⟩ = some (.int .i64 hi)) (first | (with_reducible assumption) | exact ⟨b1, q1, q2⟩ | fail) ((go_at_call 69; refine (pick_any r (B + 4 * k + 2 + 1) (hi - lo + 1) _ hrd4 (by omega) (by omega)).mono ?_; rintro e z5 ⟨v5, rfl, v50, v51, hD5⟩; have hS5 : (fun z => z.cell? ⟨x.heap.size, 1, none⟩ = some (.slice (some ⟨g, oo, none⟩) 3 cap) ∧ z.cell? ⟨g, oo + k * 3 + 1, none⟩ = some (.int .i64 lo) ∧ z.cell? ⟨g, oo + k * 3 + 2, none⟩ = some (.int .i64 hi)) z5 := ⟨hD5.cell x.heap.size 1 (by omega) bxl |>.trans b1, (hD5.cell g _ (by omega) hgx).trans q1, (hD5.cell g _ (by omega) hgx).trans q2⟩; have s3_ : IntKind.i64.wrap (lo + v5) = lo + v5 := IntWalk.i64_in _ (by omega)))
          have W5 : Hid (WS r (B + 4 * k + 2 + 1 + 1) x z5 true (some ⟨g, oo, none⟩) 3 cap c l u L zf B0 E0 v6 R (.slice (some ⟨x.heap.size + 1 + 1, 0, none⟩) 0 0) []) := W4.out.draw hD5
          clear W4 hD5 hrd4 hS5 bx bxl b1 q0 q1 q2
          obtain ⟨p9, cap9, w9, hrun, W9⟩ := W5.out.app6 39 (by omega) (lo + v5)
          go_wp2_with (refine wpList_app rfl _ _ 39 rfl rfl rfl hrun ?_)
          have W10 := ws_le (D := B + 4 * (k + 1)) W9.out (by omega)
          have hlen : (R ++ [lo + v5]).length = k + 1 := by simp; omega
          have W11 := W10.out
          rw [hR] at W11
          go_roundw
          case rel => exact ⟨k + 1, _, _, by omega, rfl, by go_num, hlen, W11⟩
          case measure => simp [intOf]; omega
        · skip
          obtain ⟨p9, cap9, w9, hrun, W9⟩ := W3.out.app6 39 (by omega) (nn)
          go_wp2_with (refine wpList_app rfl _ _ 39 rfl rfl rfl hrun ?_)
          have hkk : B + 4 * k + 2 ≤ B + 4 * (k + 1) ∧ B + 4 * k + 2 + 1 ≤ B + 4 * (k + 1) := by omega
          have W10 := ws_le (D := B + 4 * (k + 1)) W9.out (by omega)
          have hlen : (R ++ [nn]).length = k + 1 := by simp; omega
          have W11 := W10.out
          rw [hR] at W11
          go_roundw
          case rel => exact ⟨k + 1, _, _, by omega, rfl, by go_num, hlen, W11⟩
          case measure => simp [intOf]; omega
    · obtain rfl : k = 3 := by omega
      have hki : ¬ ((3 : Nat) : Int) < 3 := by omega
      have hR3 : R.length = 3 := hR
      have W0 : Hid (WS r (B + 12) x wr a p n cap c l u L zf B0 E0 v6 R (.slice (some ⟨x.heap.size + 1 + 1, 0, none⟩) 0 0) []) := ws_le (D := B + 12) hW.out (by omega)
      clear hR hW
      go_wp2_with fail
      go_loopw [7, 10] (fun s t y => ∃ (k : Nat) (v7 : Value) (C : List Int), k ≤ 3 ∧ v7 = s ∧ t = .int .i64 k ∧ C.length = k ∧ Hid (WS r (B + 12 + 4 * k) x y a p n cap c l u L zf B0 E0 v6 R v7 C)) (fun _ t _ => 3 - (intOf t).toNat)
      case atStart => exact ⟨0, _, [], by omega, rfl, rfl, rfl, W0⟩
      case round =>
        clear W0
        obtain ⟨k, v7, C, hk, rfl, rfl, hR, hW⟩ := hrel
        by_cases hlt : k < 3
        · have hki : (k : Int) < 3 := by omega
          have hrd := hW.out.drawn.rd
          go_wp2_with fail
          refine (l71Word_any r (B + 12 + 4 * k) _ hrd (by omega)).mono ?_
          rintro e z1 ⟨nn, rfl, nn0, nn1, hD1⟩
          have W1 : Hid (WS r (B + 12 + 4 * k + 2) x z1 a p n cap c l u L zf B0 E0 v6 R v7 C) := hW.out.draw hD1
          clear hD1 hrd hW
          obtain ⟨_, b0, b1, b2, b3, b4, _⟩ := W1.out.box
          go_wp2_with fail
          clear b0 b1 b2 b3 b4
          refine (l11Some_any _ zf _ _ _ _ L _ _ _ W1.out.row).mono ?_
          rintro e z2 ⟨rfl, hb2⟩
          have W2 : Hid (WS r (B + 12 + 4 * k + 2) x z2 a p n cap c l u L zf B0 E0 v6 R v7 C) := W1.out.below hb2
          clear W1 hb2
          cases hso : (a && stOk a L (c, l, u))
          · skip
            obtain ⟨p9, cap9, w9, hrun, W9⟩ := W2.out.app7 39 (by omega) (nn)
            go_wp2_with (refine wpList_app rfl _ _ 39 rfl rfl rfl hrun ?_)
            have hkk : B + 12 + 4 * k + 2 ≤ B + 12 + 4 * (k + 1) ∧ B + 12 + 4 * k + 2 + 1 ≤ B + 12 + 4 * (k + 1) := by omega
            have W10 := ws_le (D := B + 12 + 4 * (k + 1)) W9.out (by omega)
            have hlen : (C ++ [nn]).length = k + 1 := by simp; omega
            have W11 := W10.out
            rw [hR] at W11
            go_roundw
            case rel => exact ⟨k + 1, _, _, by omega, rfl, by go_num, hlen, W11⟩
            case measure => simp [intOf]; omega
          · have hrd2 := W2.out.drawn.rd
            go_wp2_with fail
            refine (pick_any r (B + 12 + 4 * k + 2) 24 _ hrd2 (by omega) (by omega)).mono ?_
            rintro e z3 ⟨tt, rfl, tt0, tt1, hD3⟩
            have W3 : Hid (WS r (B + 12 + 4 * k + 2 + 1) x z3 a p n cap c l u L zf B0 E0 v6 R v7 C) := W2.out.draw hD3
            clear hD3 hrd2 W2
            by_cases htt : 0 < tt
            · have hst : stOk true L (c, l, u) = true := by cases a <;> simp_all
              obtain rfl : a = true := by cases a <;> simp_all
              have hf : someF (c, l, u) = true := by
                rcases ok_form hst with ⟨h0, _⟩ | ⟨_, s0, s1, s2, e, h0, h1, h2, h3⟩
                · cases h0
                · exact h3
              obtain ⟨lo, hi, hsp, h9a, h9b, h9c⟩ := some_form hf
              simp only [Prod.mk.injEq] at hsp
              obtain ⟨rfl, rfl, rfl⟩ := hsp
              have hd : Below z3.heap.size z3 z3.drew := (Below.refl _ _).drew
              have W4 : Hid (WS r (B + 12 + 4 * k + 2 + 1) x z3.drew true p n cap true l u L zf B0 E0 v6 R v7 C) := W3.out.below hd
              have hrx : r ≠ x.heap.size := by omega
              have bx := W4.out.box
              have bxl := bx.lt
              have b3 := bx.c3
              have b4 := bx.c4
              clear hf W3
              have hrd4 := W4.out.drawn.rd
              have s1_ : IntKind.i64.wrap (u - l) = u - l := IntWalk.i64_in _ (by omega)
              have s2_ : IntKind.i64.wrap (u - l + 1) = u - l + 1 := IntWalk.i64_in _ (by omega)
              go_wp2_with fail
              go_region_held3 (fun z => z.cell? ⟨x.heap.size, 3, none⟩ = some (.int .i64 l) ∧ z.cell? ⟨x.heap.size, 4, none⟩ = some (.int .i64 u)) (first | (with_reducible assumption) | exact ⟨b3, b4⟩ | fail) ((go_at_call 69; refine (pick_any r (B + 12 + 4 * k + 2 + 1) (u - l + 1) _ hrd4 (by omega) (by omega)).mono ?_; rintro e z5 ⟨v5, rfl, v50, v51, hD5⟩; have hS5 : (fun z => z.cell? ⟨x.heap.size, 3, none⟩ = some (.int .i64 l) ∧ z.cell? ⟨x.heap.size, 4, none⟩ = some (.int .i64 u)) z5 := ⟨hD5.cell x.heap.size 3 (by omega) bxl |>.trans b3, hD5.cell x.heap.size 4 (by omega) bxl |>.trans b4⟩; have s3_ : IntKind.i64.wrap (l + v5) = l + v5 := IntWalk.i64_in _ (by omega)))
              have W5 : Hid (WS r (B + 12 + 4 * k + 2 + 1 + 1) x z5 true p n cap true l u L zf B0 E0 v6 R v7 C) := W4.out.draw hD5
              clear W4 hD5 hrd4 hS5 bx bxl b3 b4
              obtain ⟨p9, cap9, w9, hrun, W9⟩ := W5.out.app7 39 (by omega) (l + v5)
              go_wp2_with (refine wpList_app rfl _ _ 39 rfl rfl rfl hrun ?_)
              have W10 := ws_le (D := B + 12 + 4 * (k + 1)) W9.out (by omega)
              have hlen : (C ++ [l + v5]).length = k + 1 := by simp; omega
              have W11 := W10.out
              rw [hR] at W11
              go_roundw
              case rel => exact ⟨k + 1, _, _, by omega, rfl, by go_num, hlen, W11⟩
              case measure => simp [intOf]; omega
            · skip
              obtain ⟨p9, cap9, w9, hrun, W9⟩ := W3.out.app7 39 (by omega) (nn)
              go_wp2_with (refine wpList_app rfl _ _ 39 rfl rfl rfl hrun ?_)
              have hkk : B + 12 + 4 * k + 2 ≤ B + 12 + 4 * (k + 1) ∧ B + 12 + 4 * k + 2 + 1 ≤ B + 12 + 4 * (k + 1) := by omega
              have W10 := ws_le (D := B + 12 + 4 * (k + 1)) W9.out (by omega)
              have hlen : (C ++ [nn]).length = k + 1 := by simp; omega
              have W11 := W10.out
              rw [hR] at W11
              go_roundw
              case rel => exact ⟨k + 1, _, _, by omega, rfl, by go_num, hlen, W11⟩
              case measure => simp [intOf]; omega
        · obtain rfl : k = 3 := by omega
          have hki : ¬ ((3 : Nat) : Int) < 3 := by omega
          go_wp2_with fail
          refine bodyPost_ret (v := .tuple #[v6, v7]) (by simp [results, Try.results68, go_sem]) rfl ?_
          exact ⟨_, _, R, C, rfl, hR3, hR, by have h9 := hW.out.o6; rw [hR3] at h9; exact h9, by have h9 := hW.out.o7; rw [hR] at h9; exact h9, hW.out.ne, hW.out.drawn.le (by omega)⟩
end Go.Proofs.Ytbmjjmbimfdkoaa
