import Derived.Test.YtlkebkajdlgebaaGreatB8
import Derived.Test.YtlkebkajdlgebaaGreatB5
import Derived.Test.YtlkebkajdlgebaaGreatB3
import Derived.Test.YtlkebkajdlgebaaGreatB23
import Derived.Test.YtlkebkajdlgebaaGreatB21
import Derived.Test.YtlkebkajdlgebaaGreatB13
/-
  What an instruction behind its interface is held to be: a call, or none.
-/
namespace Go.Proofs.YtlkebkajdlgebaaGreat
open Go.RowKit
set_option linter.unusedVariables false
set_option linter.unusedSimpArgs false
theorem tc_set (v : Value) (w : World) : Sem.run Tryz.prog (Instr.typeAssert (.iface 156 v) 130 169 true) w = .ok (.tuple #[.agg #[.int .i64 0, .int .i64 0, .int .i64 0], .bool false]) w := by kernel_rfl
theorem tc_move (v : Value) (w : World) : Sem.run Tryz.prog (Instr.typeAssert (.iface 158 v) 130 169 true) w = .ok (.tuple #[.agg #[.int .i64 0, .int .i64 0, .int .i64 0], .bool false]) w := by kernel_rfl
theorem tc_ask (v : Value) (w : World) : Sem.run Tryz.prog (Instr.typeAssert (.iface 160 v) 130 169 true) w = .ok (.tuple #[.agg #[.int .i64 0, .int .i64 0, .int .i64 0], .bool false]) w := by kernel_rfl
theorem tc_do (v : Value) (w : World) : Sem.run Tryz.prog (Instr.typeAssert (.iface 162 v) 130 169 true) w = .ok (.tuple #[.agg #[.int .i64 0, .int .i64 0, .int .i64 0], .bool false]) w := by kernel_rfl
theorem tc_go (v : Value) (w : World) : Sem.run Tryz.prog (Instr.typeAssert (.iface 164 v) 130 169 true) w = .ok (.tuple #[.agg #[.int .i64 0, .int .i64 0, .int .i64 0], .bool false]) w := by kernel_rfl
theorem tc_less (v : Value) (w : World) : Sem.run Tryz.prog (Instr.typeAssert (.iface 166 v) 130 169 true) w = .ok (.tuple #[.agg #[.int .i64 0, .int .i64 0, .int .i64 0], .bool false]) w := by kernel_rfl
theorem tc_same (v : Value) (w : World) : Sem.run Tryz.prog (Instr.typeAssert (.iface 167 v) 130 169 true) w = .ok (.tuple #[.agg #[.int .i64 0, .int .i64 0, .int .i64 0], .bool false]) w := by kernel_rfl
theorem tc_back (v : Value) (w : World) : Sem.run Tryz.prog (Instr.typeAssert (.iface 171 v) 130 169 true) w = .ok (.tuple #[.agg #[.int .i64 0, .int .i64 0, .int .i64 0], .bool false]) w := by kernel_rfl
theorem tc_hold (v : Value) (w : World) : Sem.run Tryz.prog (Instr.typeAssert (.iface 173 v) 130 169 true) w = .ok (.tuple #[.agg #[.int .i64 0, .int .i64 0, .int .i64 0], .bool false]) w := by kernel_rfl
theorem tc_put (v : Value) (w : World) : Sem.run Tryz.prog (Instr.typeAssert (.iface 175 v) 130 169 true) w = .ok (.tuple #[.agg #[.int .i64 0, .int .i64 0, .int .i64 0], .bool false]) w := by kernel_rfl
theorem tc_get (v : Value) (w : World) : Sem.run Tryz.prog (Instr.typeAssert (.iface 177 v) 130 169 true) w = .ok (.tuple #[.agg #[.int .i64 0, .int .i64 0, .int .i64 0], .bool false]) w := by kernel_rfl
theorem tc_call (v : Value) (w : World) : Sem.run Tryz.prog (Instr.typeAssert (.iface 169 v) 130 169 true) w = .ok (.tuple #[v, .bool true]) w := by kernel_rfl
theorem tc_nil (w : World) : Sem.run Tryz.prog (Instr.typeAssert .nilIface 130 169 true) w = .ok (.tuple #[.agg #[.int .i64 0, .int .i64 0, .int .i64 0], .bool false]) w := by kernel_rfl
theorem tc_yes (i : I4) (h : i.1 = 8) (w : World) : Sem.run Tryz.prog (Instr.typeAssert (ifcF i) 130 169 true) w = .ok (.tuple #[.agg #[.int .i64 i.2.1, .int .i64 i.2.2.1, .int .i64 i.2.2.2], .bool true]) w := by
  obtain ⟨K, a, b, c⟩ := i
  obtain rfl : K = 8 := h
  exact tc_call _ w
theorem tc_no (i : I4) (h : i.1 ≠ 8) (w : World) : Sem.run Tryz.prog (Instr.typeAssert (ifcF i) 130 169 true) w = .ok (.tuple #[.agg #[.int .i64 0, .int .i64 0, .int .i64 0], .bool false]) w := by
  obtain ⟨K, a, b, c⟩ := i
  simp only at h
  rcases kind_cases K with rfl | rfl | rfl | rfl | rfl | rfl | rfl | rfl | rfl | rfl | rfl | rfl | hK
  · exact tc_set _ w
  · exact tc_move _ w
  · exact tc_ask _ w
  · exact tc_do _ w
  · exact tc_go _ w
  · exact tc_less _ w
  · exact tc_same _ w
  · exact absurd rfl h
  · exact tc_back _ w
  · exact tc_hold _ w
  · exact tc_put _ w
  · exact tc_get _ w
  · have e : ifcF (K, a, b, c) = .nilIface := by
      simp only [ifcF]
      rw [if_neg (by omega), if_neg (by omega), if_neg (by omega), if_neg (by omega), if_neg (by omega), if_neg (by omega), if_neg (by omega), if_neg (by omega), if_neg (by omega), if_neg (by omega), if_neg (by omega), if_neg (by omega)]
    rw [e]
    exact tc_nil w

end Go.Proofs.YtlkebkajdlgebaaGreat

/-
  Rows of numbers, wherever they lie: marked (markIntS), held (heldIntS).
-/
namespace Go.Proofs.YtlkebkajdlgebaaGreat
open Go.RowKit
set_option linter.unusedVariables false
set_option linter.unusedSimpArgs false

/-- n numbers from k on -/
def fromL (k : Int) (n : Nat) : List Int := (List.range n).map (fun j : Nat => k + (j : Int))
theorem fromL_len (k : Int) (n : Nat) : (fromL k n).length = n := by simp [fromL]
theorem fromL_get (k : Int) (n j : Nat) (h : j < n) : (fromL k n).getD j 0 = k + j := by simp [fromL, List.getD_eq_getElem?_getD, List.getElem?_map, List.getElem?_range h]
theorem IntsAt.within {z : Bool} {x y : World} {B E C D : Nat} {v : Value} {L : List Int} (h : IntsAt z x C D v L) (hw : Within B E x y) (hd : D ≤ B ∨ E ≤ C) : IntsAt z y C D v L :=
  h.stay (by rw [hw.sz]; exact Nat.le_refl _) fun g o h1 h2 => ⟨hw.cell _ _ (by omega), hw.frozen _ _⟩
theorem Owns.ints {x : World} {B : Nat} {v : Value} {L : List Int} (h : Owns x B v L) : IntsAt true x B x.heap.size v L := by
  rcases h.2 with ⟨e, hn⟩ | ⟨g, cap, cur, e, hb, hg, hnc, hcm, hcs, ht⟩
  · exact ⟨none, 0, by rw [e, hn], by unfold maxLen; omega, .inl hn⟩
  · subst e
    refine ⟨_, cap, rfl, by omega, .inr ⟨g, 0, rfl, hb, (Array.getElem?_eq_some_iff.1 hg).1, Nat.le_refl _, fun _ k => World.ownsRow.frozenAt h k, fun j hj => ?_⟩⟩
    rw [Nat.zero_add, World.ownsRow.cellAt h j (by omega)]
    simp [List.getElem?_eq_getElem hj, List.getD]

end Go.Proofs.YtlkebkajdlgebaaGreat

/-
  Whether a sum is ok: the contract of sumOk, given one of callsOf.
-/
namespace Go.Proofs.YtlkebkajdlgebaaGreat
open Go.RowKit
set_option linter.unusedVariables false
set_option linter.unusedSimpArgs false

def sumF (P : List (List I4)) (Q : Nat → Int → Bool) (s : Sm) : Bool := inI s.p 0 (P.length - 1) && decide (s.R.length = 3) && allB (fun j => rowF P s.p (Q s.p.toNat) (s.R.getD j rw0)) s.R.length
set_option maxRecDepth 100000 in
set_option maxHeartbeats 8000000 in
theorem sumOk_of (x0 : World) (B : Nat) (v : Value) (P : List (List I4)) (h : ProgAt x0 B v P) (hok : progOkF P = true) (s : Sm) (u : Value) (hs : RowsAt x0 u s.R) (Q : Nat → Int → Bool) (HC : ∀ k, k < P.length → CallsOfIs B (P.getD k []) (Q k)) :
    Calls Tryz.prog 36 #[v, .agg #[.int .i64 s.p, u]] x0 fun e y => e = .returned (.bool (sumF P Q s)) ∧ Below x0.heap.size x0 y := by
  obtain ⟨n0, R⟩ := s
  dsimp only at hs
  obtain ⟨pp, cp, rfl, _⟩ := h.shape
  obtain ⟨ps, cs, rfl, hm⟩ := hs.shape
  unfold maxLen at hm
  have hri : (R.length : Int) ≤ 9223372036854775807 := by omega
  have hl4 := (progOkF_len hok).2
  have hpi : (P.length : Int) ≤ 4 := by omega
  have HF : Hid (sumF P Q ⟨n0, R⟩ = (inI n0 0 (P.length - 1) && decide (R.length = 3) && allB (fun j => rowF P n0 (Q n0.toNat) (R.getD j rw0)) R.length)) := rfl
  generalize sumF P Q ⟨n0, R⟩ = F at HF ⊢
  have HP : Hid (ProgAt x0 B (.slice pp P.length cp) P) := h
  have HOK : Hid (progOkF P = true) := hok
  have HS : Hid (RowsAt x0 (.slice ps R.length cs) R) := hs
  have HCC : Hid (∀ k, k < P.length → CallsOfIs B (P.getD k []) (Q k)) := HC
  clear h hok hs hm HC hl4
  dsimp only
  generalize hpn : P.length = pn at *
  have HPN : Hid (P.length = pn) := hpn
  clear hpn
  generalize hrn : R.length = rn at *
  have HRN : Hid (R.length = rn) := hrn
  clear hrn
  go_enter Tryz.func36, Tryz.ntmps36
  go_wp2_with fail
  have HX : Hid (Below x0.heap.size x0 (x0.alloc (.cells #[.int .i64 n0, .slice ps rn cs] 33))) := (Below.refl _ _).alloc (Nat.le_refl _) _
  have KX : Hid (BxN (x0.alloc (.cells #[.int .i64 n0, .slice ps rn cs] 33)) x0.heap.size [.int .i64 n0, .slice ps rn cs]) := BxN.new x0 [_, _] _
  generalize x0.alloc (.cells #[.int .i64 n0, .slice ps rn cs] 33) = X at HX KX ⊢
  refine (hasProc_any pn 0 n0 X).mono ?_
  rintro e y ⟨rfl, hb⟩
  have HY : Hid (Below x0.heap.size x0 y) := HX.out.trans (hb.mono HX.out.size)
  have KY := KX.out.laterH hb
  clear hb HX KX
  cases h1 : inI n0 0 (pn - 1)
  · go_wp2_with fail
    go_ret
    exact ⟨ret_bool (by rw [HF.out, h1]; rfl), HY.out⟩
  · obtain ⟨k0, rfl, hk0⟩ : ∃ k : Nat, n0 = k ∧ k < pn := by
      simp only [inI, Bool.and_eq_true, decide_eq_true_eq] at h1
      exact ⟨n0.toNat, by omega, by omega⟩
    have a0 := KY.out.c 0 _ rfl
    have a1 := KY.out.c 1 _ rfl
    have l1 := KY.out.lt
    by_cases h3 : rn = 3
    · subst h3
      have HF2 : Hid (F = allB (fun j => rowF P k0 (Q k0) (R.getD j rw0)) 3) := by show _ = _; rw [HF.out, h1]; simp
      clear HF h1
      have HK : Hid (k0 < P.length) := by show _ < _; rw [HPN.out]; exact hk0
      generalize hG : (fun j => rowF P k0 (Q k0) (R.getD j rw0)) = G at HF2
      have HG : Hid (∀ j, rowF P k0 (Q k0) (R.getD j rw0) = G j) := by show ∀ j, _; intro j; rw [← hG]
      clear hG
      go_wp2_with fail
      clear a0 a1 l1
      go_loopw [23] (fun t z => ∃ k : Nat, k ≤ 3 ∧ t = .int .i64 k ∧ Hid (Below x0.heap.size x0 z ∧ BxN z x0.heap.size [.int .i64 k0, .slice ps 3 cs]) ∧ Hid (∀ j, j < k → G j = true)) (fun t _ => 3 - (intOf t).toNat)
      case atStart => exact ⟨0, by omega, rfl, ⟨HY.out, KY.out⟩, fun j hj => by omega⟩
      case round =>
        obtain ⟨k, hk, rfl, HB, hd⟩ := hrel
        have b0 := HB.out.2.c 0 _ rfl
        have lb := HB.out.2.lt
        by_cases hlt : k < 3
        · have hki : (k : Int) < 3 := by omega
          obtain ⟨g, o, rfl, hgx, hr⟩ := RowsAt.row (p := ps) (cap := cs) (R := R) (j := k) (by have := HS.out; rw [HRN.out]; exact this) (by rw [HRN.out]; exact hlt)
          have hgw : g < wr.heap.size := Nat.lt_of_lt_of_le hgx HB.out.1.size
          obtain ⟨c0, c1, c2, ⟨u3, c3, i3⟩, ⟨u4, c4, i4⟩⟩ := hr.later HB.out.1 hgx
          obtain ⟨p3, k3, rfl⟩ := i3.shape
          obtain ⟨p4, k4, rfl⟩ := i4.shape
          have HGk := HG.out k
          generalize R.getD k rw0 = r at *
          have HGK : Hid (rowF P k0 (Q k0) r = G k) := HGk
          have I3 : Hid (IRowW 3 wr (.slice p3 r.ns k3) r.ns r.S) := i3
          have I4 : Hid (IRowW 2 wr (.slice p4 r.nc k4) r.nc r.C) := i4
          clear HGk i3 i4 hr hgx
          go_wp2_with fail
          have HX : Hid (Below x0.heap.size x0 (wr.alloc (.cells #[.bool r.o.1, .int .i64 r.o.2.1, .int .i64 r.o.2.2, .slice p3 r.ns k3, .slice p4 r.nc k4] 71)) ∧ BxN (wr.alloc (.cells #[.bool r.o.1, .int .i64 r.o.2.1, .int .i64 r.o.2.2, .slice p3 r.ns k3, .slice p4 r.nc k4] 71)) x0.heap.size [.int .i64 k0, .slice (some ⟨g, o, none⟩) 3 cs] ∧ Below wr.heap.size wr (wr.alloc (.cells #[.bool r.o.1, .int .i64 r.o.2.1, .int .i64 r.o.2.2, .slice p3 r.ns k3, .slice p4 r.nc k4] 71))) := ⟨HB.out.1.alloc HB.out.1.size _, HB.out.2.later ((Below.refl _ _).alloc (Nat.le_refl _) _), (Below.refl _ _).alloc (Nat.le_refl _) _⟩
          generalize wr.alloc (.cells #[.bool r.o.1, .int .i64 r.o.2.1, .int .i64 r.o.2.2, .slice p3 r.ns k3, .slice p4 r.nc k4] 71) = Z at HX ⊢
          refine (rowOk_of Z B _ P (by have := HP.out.later HX.out.1; rw [← HPN.out] at this; rw [← HPN.out]; exact this) HOK.out k0 HK.out r _ _ (I3.out.later HX.out.2.2) (I4.out.later HX.out.2.2) (Q k0) (HCC.out k0 (by have := HK.out; rw [HPN.out] at this; exact this))).mono ?_
          rintro e z ⟨rfl, hb⟩
          have HZ : Hid (Below x0.heap.size x0 z ∧ BxN z x0.heap.size [.int .i64 k0, .slice (some ⟨g, o, none⟩) 3 cs]) := ⟨HX.out.1.trans (hb.mono HX.out.1.size), HX.out.2.1.later hb⟩
          clear hb HX
          rw [HGK.out]
          cases hg2 : G k
          · have HNO : Hid (allB G 3 = false) := allB_no hlt hg2
            clear hg2
            go_wp2_with fail
            go_ret
            exact ⟨ret_bool (by rw [HF2.out, HNO.out]), HZ.out.1⟩
          · have HGT : Hid (G k = true) := hg2
            clear hg2
            go_wp2_with fail
            go_roundw
            case rel =>
              refine ⟨k + 1, by omega, by go_num, HZ, fun j hj => ?_⟩
              rcases (by omega : j < k ∨ j = k) with hjk | rfl
              · exact hd.out j hjk
              · exact HGT.out
            case measure => simp [intOf]; omega
        · obtain rfl : k = 3 := by omega
          have HE : Hid (allB G 3 = true) := allB_yes hd.out
          go_wp2_with fail
          go_ret
          exact ⟨ret_bool (by rw [HF2.out, HE.out]), HB.out.1⟩
    · have h3i : ((rn : Int) != 3) = true := by
        rw [bne_iff_ne]; omega
      have HNO : Hid (F = false) := by show _ = _; rw [HF.out]; simp [h3]
      clear HF
      go_wp2_with fail
      go_ret
      exact ⟨ret_bool (by rw [HNO.out]), HY.out⟩

end Go.Proofs.YtlkebkajdlgebaaGreat
