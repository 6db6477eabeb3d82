import Derived.Test.YtdomalclpjijaaaB39
import Derived.Test.YtdomalclpjijaaaB34
/-
  The walk of the law FnStateJoin.
-/
namespace Go.Proofs.Ytdomalclpjijaaa
open Go.RowKit
set_option linter.unusedVariables false
set_option linter.unusedSimpArgs false

set_option maxRecDepth 100000 in
set_option maxHeartbeats 16000000 in
theorem stateJoin_walk (a : Option Addr) (len cap : Nat) (zs : List Int) (b : Option Addr) (lenb capb : Nat) (zb : List Int) (w : World) (h : IsRow w a len cap zs) (h' : IsRow w b lenb capb zb) :
    Calls Try.prog 8 #[.slice a len cap, .slice b lenb capb] w fun e w' => e = .returned (.bool true) ∧ Below w.heap.size w w' := by
  have hm : len ≤ maxLen := by
    rcases h with ⟨rfl, rfl, rfl, rfl⟩ | ⟨x, rfl, hl, hm, hz, hcell, hwz⟩
    · unfold maxLen; omega
    · omega
  unfold maxLen at hm
  have hm' : lenb ≤ maxLen := by
    rcases h' with ⟨rfl, rfl, rfl, rfl⟩ | ⟨x, rfl, hl, hm, hz, hcell, hwz⟩
    · unfold maxLen; omega
    · omega
  unfold maxLen at hm'
  by_cases hl : (1048576 : Int) < (len : Int)
  · clear h h'
    go_enter Try.func8, Try.ntmps8
    go_wp2
    go_ret
    exact ⟨rfl, by go_grown⟩
  by_cases hl2 : (1048576 : Int) < (lenb : Int)
  · clear h h'
    go_enter Try.func8, Try.ntmps8
    go_wp2
    go_ret
    exact ⟨rfl, by go_grown⟩
  go_enter Try.func8, Try.ntmps8
  go_wp2_with fail
  refine (drawStateJoin_any a len cap zs _ h).mono ?_
  rintro e x1 hg
  obtain ⟨a1, L1, c1, l1, u1, p1, cap1, a2, L2, c2, l2, u2, p2, cap2, rfl, hn1, hn2, hs1, hs2, hb⟩ := hg.it
  clear hg
  generalize hq1 : L1.length = n1 at hn1 hs1 ⊢
  generalize hq2 : L2.length = n2 at hn2 hs2 ⊢
  have HQ1 : Hid ((L1.length = n1 ∧ L1.length ≤ 1000) ∧ (L2.length = n2 ∧ L2.length ≤ 1000)) := ⟨⟨hq1, by omega⟩, ⟨hq2, by omega⟩⟩
  clear hq1 hq2 hn1 hn2
  have hA : Below x1.heap.size x1 ((x1.alloc (.cells #[.bool a1, .slice p1 n1 cap1, .bool c1, .int .i64 l1, .int .i64 u1] 31)).alloc (.cells #[.bool a2, .slice p2 n2 cap2, .bool c2, .int .i64 l2, .int .i64 u2] 31)) := ((Below.refl _ _).alloc (Nat.le_refl _) _).alloc (by simp) _
  have P1 : Hid (Pr ((x1.alloc (.cells #[.bool a1, .slice p1 n1 cap1, .bool c1, .int .i64 l1, .int .i64 u1] 31)).alloc (.cells #[.bool a2, .slice p2 n2 cap2, .bool c2, .int .i64 l2, .int .i64 u2] 31)) w.heap.size x1.heap.size x1.heap.size a1 p1 n1 cap1 c1 l1 u1 L1) := ⟨(Bx5.new _ _ _ _ _ _ _).alloc _, hs1.later hA⟩
  have P2 : Hid (Pr ((x1.alloc (.cells #[.bool a1, .slice p1 n1 cap1, .bool c1, .int .i64 l1, .int .i64 u1] 31)).alloc (.cells #[.bool a2, .slice p2 n2 cap2, .bool c2, .int .i64 l2, .int .i64 u2] 31)) w.heap.size x1.heap.size (x1.heap.size + 1) a2 p2 n2 cap2 c2 l2 u2 L2) := ⟨by have h9 := Bx5.new (x1.alloc (.cells #[.bool a1, .slice p1 n1 cap1, .bool c1, .int .i64 l1, .int .i64 u1] 31)) (.bool a2) (.slice p2 n2 cap2) (.bool c2) (.int .i64 l2) (.int .i64 u2) 31; rw [World.size_alloc] at h9; exact h9, hs2.later hA⟩
  have HB : Hid (Below w.heap.size w ((x1.alloc (.cells #[.bool a1, .slice p1 n1 cap1, .bool c1, .int .i64 l1, .int .i64 u1] 31)).alloc (.cells #[.bool a2, .slice p2 n2 cap2, .bool c2, .int .i64 l2, .int .i64 u2] 31))) := hb.trans (hA.mono hb.size)
  have HW : Hid (IsRow ((x1.alloc (.cells #[.bool a1, .slice p1 n1 cap1, .bool c1, .int .i64 l1, .int .i64 u1] 31)).alloc (.cells #[.bool a2, .slice p2 n2 cap2, .bool c2, .int .i64 l2, .int .i64 u2] 31)) b lenb capb zb) := IsRow.later (IsRow.later h' hb) (hA.mono hb.size |> fun t => (hA : Below x1.heap.size x1 ((x1.alloc (.cells #[.bool a1, .slice p1 n1 cap1, .bool c1, .int .i64 l1, .int .i64 u1] 31)).alloc (.cells #[.bool a2, .slice p2 n2 cap2, .bool c2, .int .i64 l2, .int .i64 u2] 31))))
  clear hA hs1 hs2 hb h h'
  go_wp2_with fail
  generalize ((x1.alloc (.cells #[.bool a1, .slice p1 n1 cap1, .bool c1, .int .i64 l1, .int .i64 u1] 31)).alloc (.cells #[.bool a2, .slice p2 n2 cap2, .bool c2, .int .i64 l2, .int .i64 u2] 31)) = y1 at P1 P2 HB HW ⊢
  refine (drawStateJoin_any b lenb capb zb _ HW.out).mono ?_
  rintro e x3 hg
  obtain ⟨a3, L3, c3, l3, u3, p3, cap3, a4, L4, c4, l4, u4, p4, cap4, rfl, hn3, hn4, hs3, hs4, hb⟩ := hg.it
  clear hg
  replace HB : Hid (Below w.heap.size w x3) := HB.out.trans (hb.mono HB.out.size)
  replace P1 : Hid (Pr x3 w.heap.size x1.heap.size x1.heap.size a1 p1 n1 cap1 c1 l1 u1 L1) := P1.out.later hb
  replace P2 : Hid (Pr x3 w.heap.size x1.heap.size (x1.heap.size + 1) a2 p2 n2 cap2 c2 l2 u2 L2) := P2.out.later hb
  generalize hq3 : L3.length = n3 at hn3 hs3 ⊢
  generalize hq4 : L4.length = n4 at hn4 hs4 ⊢
  have HQ3 : Hid ((L3.length = n3 ∧ L3.length ≤ 1000) ∧ (L4.length = n4 ∧ L4.length ≤ 1000)) := ⟨⟨hq3, by omega⟩, ⟨hq4, by omega⟩⟩
  clear hq3 hq4 hn3 hn4
  have hA : Below x3.heap.size x3 ((x3.alloc (.cells #[.bool a3, .slice p3 n3 cap3, .bool c3, .int .i64 l3, .int .i64 u3] 31)).alloc (.cells #[.bool a4, .slice p4 n4 cap4, .bool c4, .int .i64 l4, .int .i64 u4] 31)) := ((Below.refl _ _).alloc (Nat.le_refl _) _).alloc (by simp) _
  have P3 : Hid (Pr ((x3.alloc (.cells #[.bool a3, .slice p3 n3 cap3, .bool c3, .int .i64 l3, .int .i64 u3] 31)).alloc (.cells #[.bool a4, .slice p4 n4 cap4, .bool c4, .int .i64 l4, .int .i64 u4] 31)) y1.heap.size x3.heap.size x3.heap.size a3 p3 n3 cap3 c3 l3 u3 L3) := ⟨(Bx5.new _ _ _ _ _ _ _).alloc _, hs3.later hA⟩
  have P4 : Hid (Pr ((x3.alloc (.cells #[.bool a3, .slice p3 n3 cap3, .bool c3, .int .i64 l3, .int .i64 u3] 31)).alloc (.cells #[.bool a4, .slice p4 n4 cap4, .bool c4, .int .i64 l4, .int .i64 u4] 31)) y1.heap.size x3.heap.size (x3.heap.size + 1) a4 p4 n4 cap4 c4 l4 u4 L4) := ⟨by have h9 := Bx5.new (x3.alloc (.cells #[.bool a3, .slice p3 n3 cap3, .bool c3, .int .i64 l3, .int .i64 u3] 31)) (.bool a4) (.slice p4 n4 cap4) (.bool c4) (.int .i64 l4) (.int .i64 u4) 31; rw [World.size_alloc] at h9; exact h9, hs4.later hA⟩
  replace HB : Hid (Below w.heap.size w ((x3.alloc (.cells #[.bool a3, .slice p3 n3 cap3, .bool c3, .int .i64 l3, .int .i64 u3] 31)).alloc (.cells #[.bool a4, .slice p4 n4 cap4, .bool c4, .int .i64 l4, .int .i64 u4] 31))) := HB.out.trans (hA.mono HB.out.size)
  replace P1 : Hid (Pr ((x3.alloc (.cells #[.bool a3, .slice p3 n3 cap3, .bool c3, .int .i64 l3, .int .i64 u3] 31)).alloc (.cells #[.bool a4, .slice p4 n4 cap4, .bool c4, .int .i64 l4, .int .i64 u4] 31)) w.heap.size x1.heap.size x1.heap.size a1 p1 n1 cap1 c1 l1 u1 L1) := P1.out.later hA
  replace P2 : Hid (Pr ((x3.alloc (.cells #[.bool a3, .slice p3 n3 cap3, .bool c3, .int .i64 l3, .int .i64 u3] 31)).alloc (.cells #[.bool a4, .slice p4 n4 cap4, .bool c4, .int .i64 l4, .int .i64 u4] 31)) w.heap.size x1.heap.size (x1.heap.size + 1) a2 p2 n2 cap2 c2 l2 u2 L2) := P2.out.later hA
  clear hA hs3 hs4 hb HW
  obtain ⟨_, P1_0, P1_1, P1_2, P1_3, P1_4, _⟩ := P1.out.box
  obtain ⟨_, P2_0, P2_1, P2_2, P2_3, P2_4, _⟩ := P2.out.box
  go_wp2_with fail
  clear P1_0 P1_1 P1_2 P1_3 P1_4 P2_0 P2_1 P2_2 P2_3 P2_4
  generalize ((x3.alloc (.cells #[.bool a3, .slice p3 n3 cap3, .bool c3, .int .i64 l3, .int .i64 u3] 31)).alloc (.cells #[.bool a4, .slice p4 n4 cap4, .bool c4, .int .i64 l4, .int .i64 u4] 31)) = y3 at P1 P2 P3 P4 HB ⊢
  clear P4
  obtain ⟨⟨ra, rL, rc, rl, ru⟩, hr⟩ : ∃ r, stJ a1 L1 (c1, l1, u1) a2 L2 (c2, l2, u2) = r := ⟨_, rfl⟩
  have HR : Hid (stBoth false a1 L1 (c1, l1, u1) a2 L2 (c2, l2, u2) = (ra, rL, rc, rl, ru)) := hr
  have hlr : rL.length ≤ 3 := by have h9 := stBoth_len false a1 L1 (c1, l1, u1) a2 L2 (c2, l2, u2); rw [HR.out] at h9; exact h9
  clear hr
  refine (stJoin_impl _ true true _ _ _ _ _ _ L1 _ _ _ _ _ L2 _ _ _ P1.out.row P2.out.row).mono ?_
  rintro e x5 ⟨v5, rfl, hs5, hb⟩
  rw [HR.out] at hs5 ⊢
  replace HB : Hid (Below w.heap.size w x5) := HB.out.trans (hb.mono HB.out.size)
  replace P1 : Hid (Pr x5 w.heap.size x1.heap.size x1.heap.size a1 p1 n1 cap1 c1 l1 u1 L1) := P1.out.later hb
  replace P2 : Hid (Pr x5 w.heap.size x1.heap.size (x1.heap.size + 1) a2 p2 n2 cap2 c2 l2 u2 L2) := P2.out.later hb
  replace P3 : Hid (Pr x5 y1.heap.size x3.heap.size x3.heap.size a3 p3 n3 cap3 c3 l3 u3 L3) := P3.out.later hb
  clear hb
  obtain ⟨p5, cap5, hv5⟩ := hs5.shape
  simp only at hv5 hs5
  generalize hq5 : rL.length = n5 at hv5 hlr
  subst hv5
  have HQ5 : Hid (rL.length = n5 ∧ rL.length ≤ 1000) := ⟨hq5, by omega⟩
  clear hq5
  have hA : Below x5.heap.size x5 (x5.alloc (.cells #[.bool ra, .slice p5 n5 cap5, .bool rc, .int .i64 rl, .int .i64 ru] 31)) := (Below.refl _ _).alloc (Nat.le_refl _) _
  have P5 := Pr.made (a := ra) (c := rc) (l := rl) (u := ru) 31 hs5
  replace P5 : Hid (Pr (x5.alloc (.cells #[.bool ra, .slice p5 n5 cap5, .bool rc, .int .i64 rl, .int .i64 ru] 31)) y3.heap.size x5.heap.size x5.heap.size ra p5 n5 cap5 rc rl ru rL) := P5
  replace HB : Hid (Below w.heap.size w (x5.alloc (.cells #[.bool ra, .slice p5 n5 cap5, .bool rc, .int .i64 rl, .int .i64 ru] 31))) := HB.out.trans (hA.mono HB.out.size)
  replace P1 : Hid (Pr (x5.alloc (.cells #[.bool ra, .slice p5 n5 cap5, .bool rc, .int .i64 rl, .int .i64 ru] 31)) w.heap.size x1.heap.size x1.heap.size a1 p1 n1 cap1 c1 l1 u1 L1) := P1.out.later hA
  replace P2 : Hid (Pr (x5.alloc (.cells #[.bool ra, .slice p5 n5 cap5, .bool rc, .int .i64 rl, .int .i64 ru] 31)) w.heap.size x1.heap.size (x1.heap.size + 1) a2 p2 n2 cap2 c2 l2 u2 L2) := P2.out.later hA
  replace P3 : Hid (Pr (x5.alloc (.cells #[.bool ra, .slice p5 n5 cap5, .bool rc, .int .i64 rl, .int .i64 ru] 31)) y1.heap.size x3.heap.size x3.heap.size a3 p3 n3 cap3 c3 l3 u3 L3) := P3.out.later hA
  clear hA hs5
  obtain ⟨_, P1_0, P1_1, P1_2, P1_3, P1_4, _⟩ := P1.out.box
  obtain ⟨_, P2_0, P2_1, P2_2, P2_3, P2_4, _⟩ := P2.out.box
  obtain ⟨_, P3_0, P3_1, P3_2, P3_3, P3_4, _⟩ := P3.out.box
  obtain ⟨_, P5_0, P5_1, P5_2, P5_3, P5_4, _⟩ := P5.out.box
  go_wp2_with fail
  clear P1_0 P1_1 P1_2 P1_3 P1_4 P2_0 P2_1 P2_2 P2_3 P2_4 P3_0 P3_1 P3_2 P3_3 P3_4 P5_0 P5_1 P5_2 P5_3 P5_4
  generalize x5.alloc (.cells #[.bool ra, .slice p5 n5 cap5, .bool rc, .int .i64 rl, .int .i64 ru] 31) = y5 at HB P1 P2 P3 P5 ⊢
  cases hoa : stOk a1 L1 (c1, l1, u1)
  · skip
    have HAo : Hid (stOk a1 L1 (c1, l1, u1) = false) := hoa
    clear hoa
    go_cut [52] (fun s y => s = .bool true ∧ Hid (Below w.heap.size w y) ∧ Hid (Pr y w.heap.size x1.heap.size x1.heap.size a1 p1 n1 cap1 c1 l1 u1 L1) ∧ Hid (Pr y w.heap.size x1.heap.size (x1.heap.size + 1) a2 p2 n2 cap2 c2 l2 u2 L2) ∧ Hid (Pr y y1.heap.size x3.heap.size x3.heap.size a3 p3 n3 cap3 c3 l3 u3 L3) ∧ Hid (Pr y y3.heap.size x5.heap.size x5.heap.size ra p5 n5 cap5 rc rl ru rL))
    case first =>
      have hBd : Below y5.heap.size y5 y5.drew := (Below.refl _ _).drew
      refine wp_region_preds (by kernel_rfl) (by kernel_rfl) (by kernel_rfl) (by kernel_rfl) (fun j => [(fun v _ => v = .agg #[.bool ra, .slice p5 n5 cap5, .bool rc, .int .i64 rl, .int .i64 ru]), (fun v _ => v = .agg #[.bool a1, .slice p1 n1 cap1, .bool c1, .int .i64 l1, .int .i64 u1]), (fun v _ => v = .agg #[.bool a2, .slice p2 n2 cap2, .bool c2, .int .i64 l2, .int .i64 u2]), (fun v x => StV (ra, rL, rc, rl, ru) v x), (fun v _ => v = .bool true), (fun v _ => v = .bool false), (fun v _ => v = .bool false), (fun v _ => v = .agg #[.bool a1, .slice p1 n1 cap1, .bool c1, .int .i64 l1, .int .i64 u1]), (fun v _ => v = .bool false), (fun v _ => v = .bool true), (fun v _ => v = .bool true), (fun v _ => v = .bool true), (fun v _ => v = undef), (fun v _ => v = undef), (fun v _ => v = undef), (fun v _ => v = .bool true), (fun v _ => v = .bool true), (fun v _ => v = undef), (fun v _ => v = undef), (fun v _ => v = undef), (fun v _ => v = .bool true)].getD j (fun _ _ => True)) ?stable y5 hBd ?step (fun V => ⟨List.toArray ((Value.slice a len cap) :: (Value.slice b lenb capb) :: (undef) :: (undef) :: (Value.bool false) :: (Value.pointer (some { block := x1.heap.size, off := 0 })) :: (Value.pointer (some { block := x1.heap.size + 1, off := 0 })) :: (Value.pointer (some { block := x3.heap.size, off := 0 })) :: (Value.pointer (some { block := x3.heap.size + 1, off := 0 })) :: (Value.pointer (some { block := x5.heap.size, off := 0 })) :: (undef) :: (Value.slice a len cap) :: (Value.int IntKind.i64 ↑len) :: (Value.bool false) :: (Value.bool false) :: (Value.slice b lenb capb) :: (Value.int IntKind.i64 ↑lenb) :: (Value.bool false) :: (Value.bool false) :: (Value.tuple #[Value.agg #[Value.bool a1, Value.slice p1 n1 cap1, Value.bool c1, Value.int IntKind.i64 l1, Value.int IntKind.i64 u1], Value.agg #[Value.bool a2, Value.slice p2 n2 cap2, Value.bool c2, Value.int IntKind.i64 l2, Value.int IntKind.i64 u2]]) :: (Value.slice a len cap) :: (Value.tuple #[Value.agg #[Value.bool a1, Value.slice p1 n1 cap1, Value.bool c1, Value.int IntKind.i64 l1, Value.int IntKind.i64 u1], Value.agg #[Value.bool a2, Value.slice p2 n2 cap2, Value.bool c2, Value.int IntKind.i64 l2, Value.int IntKind.i64 u2]]) :: (Value.agg #[Value.bool a1, Value.slice p1 n1 cap1, Value.bool c1, Value.int IntKind.i64 l1, Value.int IntKind.i64 u1]) :: (Value.agg #[Value.bool a2, Value.slice p2 n2 cap2, Value.bool c2, Value.int IntKind.i64 l2, Value.int IntKind.i64 u2]) :: (Value.tuple #[Value.agg #[Value.bool a3, Value.slice p3 n3 cap3, Value.bool c3, Value.int IntKind.i64 l3, Value.int IntKind.i64 u3], Value.agg #[Value.bool a4, Value.slice p4 n4 cap4, Value.bool c4, Value.int IntKind.i64 l4, Value.int IntKind.i64 u4]]) :: (Value.slice b lenb capb) :: (Value.tuple #[Value.agg #[Value.bool a3, Value.slice p3 n3 cap3, Value.bool c3, Value.int IntKind.i64 l3, Value.int IntKind.i64 u3], Value.agg #[Value.bool a4, Value.slice p4 n4 cap4, Value.bool c4, Value.int IntKind.i64 l4, Value.int IntKind.i64 u4]]) :: (Value.agg #[Value.bool a3, Value.slice p3 n3 cap3, Value.bool c3, Value.int IntKind.i64 l3, Value.int IntKind.i64 u3]) :: (Value.agg #[Value.bool a4, Value.slice p4 n4 cap4, Value.bool c4, Value.int IntKind.i64 l4, Value.int IntKind.i64 u4]) :: (Value.agg #[Value.bool a1, Value.slice p1 n1 cap1, Value.bool c1, Value.int IntKind.i64 l1, Value.int IntKind.i64 u1]) :: (Value.agg #[Value.bool a2, Value.slice p2 n2 cap2, Value.bool c2, Value.int IntKind.i64 l2, Value.int IntKind.i64 u2]) :: (Value.agg #[Value.bool ra, Value.slice p5 n5 cap5, Value.bool rc, Value.int IntKind.i64 rl, Value.int IntKind.i64 ru]) :: (V 0) :: (V 1) :: (V 2) :: (V 3) :: (V 4) :: (V 5) :: (V 6) :: (V 7) :: (V 8) :: (V 9) :: (V 10) :: (V 11) :: (V 12) :: (V 13) :: (V 14) :: (V 15) :: (V 16) :: (V 17) :: (V 18) :: (V 19) :: (V 20) :: (undef) :: (undef) :: (undef) :: (undef) :: (undef) :: (undef) :: (undef) :: (undef) :: (undef) :: (undef) :: (undef) :: (undef) :: (undef) :: (undef) :: (undef) :: (undef) :: (undef) :: (undef) :: (undef) :: (undef) :: (undef) :: (undef) :: (undef) :: (undef) :: (undef) :: (undef) :: (undef) :: (undef) :: (undef) :: (undef) :: (undef) :: (undef) :: (undef) :: (undef) :: (undef) :: (undef) :: (undef) :: (undef) :: (undef) :: (undef) :: (undef) :: (undef) :: (undef) :: (undef) :: (undef) :: (undef) :: (undef) :: (undef) :: (undef) :: (undef) :: (undef) :: (undef) :: (undef) :: (undef) :: (undef) :: (undef) :: (undef) :: (undef) :: (undef) :: (undef) :: (undef) :: (undef) :: []), []⟩) (fun V => by kernel_rfl) ?fin
      case stable =>
        intro i v x y ht hb
        rcases i with _ | i
        · exact ht
        rcases i with _ | i
        · exact ht
        rcases i with _ | i
        · exact ht
        rcases i with _ | i
        · exact StV.later ht hb
        rcases i with _ | i
        · exact ht
        rcases i with _ | i
        · exact ht
        rcases i with _ | i
        · exact ht
        rcases i with _ | i
        · exact ht
        rcases i with _ | i
        · exact ht
        rcases i with _ | i
        · exact ht
        rcases i with _ | i
        · exact ht
        rcases i with _ | i
        · exact ht
        rcases i with _ | i
        · exact ht
        rcases i with _ | i
        · exact ht
        rcases i with _ | i
        · exact ht
        rcases i with _ | i
        · exact ht
        rcases i with _ | i
        · exact ht
        rcases i with _ | i
        · exact ht
        rcases i with _ | i
        · exact ht
        rcases i with _ | i
        · exact ht
        rcases i with _ | i
        · exact ht
        exact trivial
      case step =>
        intro i o ho ρ y x hBx hdep hout
        rcases i with _ | i
        · obtain rfl := Option.some.inj ho
          have o9 : ρ (.tmp 9) = Value.pointer (some { block := x5.heap.size, off := 0 }) := hout (.tmp 9) rfl
          have ocn : ∀ v, ρ (.const v) = v := fun v => hout (.const v) rfl
          have ofn : ∀ f, ρ (.func f) = .func (.func f) #[] #[] := fun f => hout (.func f) rfl
          clear hdep hout
          refine .inl ⟨?_, ?_⟩
          · rfl
          obtain ⟨_, cc0, cc1, cc2, cc3, cc4, _⟩ := (P5.out.later hBx).box
          show GivesP _ _ _ (fun v _ => v = .agg #[.bool ra, .slice p5 n5 cap5, .bool rc, .int .i64 rl, .int .i64 ru]) _
          refine GivesP.val (.agg #[.bool ra, .slice p5 n5 cap5, .bool rc, .int .i64 rl, .int .i64 ru]) rfl ?_
          go_simp
        rcases i with _ | i
        · obtain rfl := Option.some.inj ho
          have o5 : ρ (.tmp 5) = Value.pointer (some { block := x1.heap.size, off := 0 }) := hout (.tmp 5) rfl
          have ocn : ∀ v, ρ (.const v) = v := fun v => hout (.const v) rfl
          have ofn : ∀ f, ρ (.func f) = .func (.func f) #[] #[] := fun f => hout (.func f) rfl
          clear hdep hout
          refine .inl ⟨?_, ?_⟩
          · rfl
          obtain ⟨_, cc0, cc1, cc2, cc3, cc4, _⟩ := (P1.out.later hBx).box
          show GivesP _ _ _ (fun v _ => v = .agg #[.bool a1, .slice p1 n1 cap1, .bool c1, .int .i64 l1, .int .i64 u1]) _
          refine GivesP.val (.agg #[.bool a1, .slice p1 n1 cap1, .bool c1, .int .i64 l1, .int .i64 u1]) rfl ?_
          go_simp
        rcases i with _ | i
        · obtain rfl := Option.some.inj ho
          have o6 : ρ (.tmp 6) = Value.pointer (some { block := x1.heap.size + 1, off := 0 }) := hout (.tmp 6) rfl
          have ocn : ∀ v, ρ (.const v) = v := fun v => hout (.const v) rfl
          have ofn : ∀ f, ρ (.func f) = .func (.func f) #[] #[] := fun f => hout (.func f) rfl
          clear hdep hout
          refine .inl ⟨?_, ?_⟩
          · rfl
          obtain ⟨_, cc0, cc1, cc2, cc3, cc4, _⟩ := (P2.out.later hBx).box
          show GivesP _ _ _ (fun v _ => v = .agg #[.bool a2, .slice p2 n2 cap2, .bool c2, .int .i64 l2, .int .i64 u2]) _
          refine GivesP.val (.agg #[.bool a2, .slice p2 n2 cap2, .bool c2, .int .i64 l2, .int .i64 u2]) rfl ?_
          go_simp
        rcases i with _ | i
        · obtain rfl := Option.some.inj ho
          have e1 : ρ (.tmp 33) = .agg #[.bool a1, .slice p1 n1 cap1, .bool c1, .int .i64 l1, .int .i64 u1] := (hdep ⟨1, .data⟩ (by simp) rfl 33 rfl).1
          have e2 : ρ (.tmp 34) = .agg #[.bool a2, .slice p2 n2 cap2, .bool c2, .int .i64 l2, .int .i64 u2] := (hdep ⟨2, .data⟩ (by simp) rfl 34 rfl).1
          have ocn : ∀ v, ρ (.const v) = v := fun v => hout (.const v) rfl
          have ofn : ∀ f, ρ (.func f) = .func (.func f) #[] #[] := fun f => hout (.func f) rfl
          clear hdep hout
          refine .inl ⟨?_, ?_⟩
          · rfl
          show GivesP _ _ _ (fun v x => StV (ra, rL, rc, rl, ru) v x) _
          refine GivesP.call ((stJoin_spec x true true _ _ _ _ _ _ L1 _ _ _ _ _ L2 _ _ _ (P1.out.later hBx).row (P2.out.later hBx).row).mono fun e w9 h9 => stV_of h9 HR.out) ?_
          go_simp
        rcases i with _ | i
        · obtain rfl := Option.some.inj ho
          have e0 : ρ (.tmp 32) = .agg #[.bool ra, .slice p5 n5 cap5, .bool rc, .int .i64 rl, .int .i64 ru] := (hdep ⟨0, .data⟩ (by simp) rfl 32 rfl).1
          have t3 : StV (ra, rL, rc, rl, ru) (ρ (.tmp 35)) x := (hdep ⟨3, .data⟩ (by simp) rfl 35 rfl).1
          obtain ⟨q3, k3, B3, E3, e3, s3⟩ := t3
          have ocn : ∀ v, ρ (.const v) = v := fun v => hout (.const v) rfl
          have ofn : ∀ f, ρ (.func f) = .func (.func f) #[] #[] := fun f => hout (.func f) rfl
          clear hdep hout
          refine .inl ⟨?_, ?_⟩
          · rfl
          show GivesP _ _ _ (fun v _ => v = .bool true) _
          refine GivesP.call ((lgState_same x true true _ _ _ _ ra _ _ rL rc rl ru (P5.out.later hBx).row s3).mono fun e w9 h9 => ⟨_, h9.1, rfl, h9.2⟩) ?_
          go_simp
        rcases i with _ | i
        · obtain rfl := Option.some.inj ho
          have e4 : ρ (.tmp 36) = .bool true := (hdep ⟨4, .data⟩ (by simp) rfl 36 rfl).1
          have ocn : ∀ v, ρ (.const v) = v := fun v => hout (.const v) rfl
          have ofn : ∀ f, ρ (.func f) = .func (.func f) #[] #[] := fun f => hout (.func f) rfl
          clear hdep hout
          refine .inl ⟨?_, ?_⟩
          · rfl
          show GivesP _ _ _ (fun v _ => v = .bool false) _
          refine GivesP.val (.bool false) rfl ?_
          go_simp
        rcases i with _ | i
        · obtain rfl := Option.some.inj ho
          have e5 : ρ (.tmp 37) = .bool false := (hdep ⟨5, .data⟩ (by simp) rfl 37 rfl).1
          have ocn : ∀ v, ρ (.const v) = v := fun v => hout (.const v) rfl
          have ofn : ∀ f, ρ (.func f) = .func (.func f) #[] #[] := fun f => hout (.func f) rfl
          clear hdep hout
          refine .inl ⟨?_, ?_⟩
          · rfl
          show GivesP _ _ _ (fun v _ => v = .bool false) _
          refine GivesP.val (.bool false) rfl ?_
          go_simp
        rcases i with _ | i
        · obtain rfl := Option.some.inj ho
          have o5 : ρ (.tmp 5) = Value.pointer (some { block := x1.heap.size, off := 0 }) := hout (.tmp 5) rfl
          have eg : ρ (.tmp 38) = .bool false := (hdep ⟨6, .guard⟩ (by simp) rfl 38 rfl).1
          have yg : y 6 = some false := (hdep ⟨6, .guard⟩ (by simp) rfl 38 rfl).2.trans (by rw [eg]; rfl)
          have ocn : ∀ v, ρ (.const v) = v := fun v => hout (.const v) rfl
          have ofn : ∀ f, ρ (.func f) = .func (.func f) #[] #[] := fun f => hout (.func f) rfl
          clear hdep hout
          refine .inl ⟨?_, ?_⟩
          · show (y 6 == some false) = true
            rw [yg]; rfl
          obtain ⟨_, cc0, cc1, cc2, cc3, cc4, _⟩ := (P1.out.later hBx).box
          show GivesP _ _ _ (fun v _ => v = .agg #[.bool a1, .slice p1 n1 cap1, .bool c1, .int .i64 l1, .int .i64 u1]) _
          refine GivesP.val (.agg #[.bool a1, .slice p1 n1 cap1, .bool c1, .int .i64 l1, .int .i64 u1]) rfl ?_
          go_simp
        rcases i with _ | i
        · obtain rfl := Option.some.inj ho
          have e7 : ρ (.tmp 39) = .agg #[.bool a1, .slice p1 n1 cap1, .bool c1, .int .i64 l1, .int .i64 u1] := (hdep ⟨7, .data⟩ (by simp) rfl 39 rfl).1
          have eg : ρ (.tmp 38) = .bool false := (hdep ⟨6, .guard⟩ (by simp) rfl 38 rfl).1
          have yg : y 6 = some false := (hdep ⟨6, .guard⟩ (by simp) rfl 38 rfl).2.trans (by rw [eg]; rfl)
          have ocn : ∀ v, ρ (.const v) = v := fun v => hout (.const v) rfl
          have ofn : ∀ f, ρ (.func f) = .func (.func f) #[] #[] := fun f => hout (.func f) rfl
          clear hdep hout
          refine .inl ⟨?_, ?_⟩
          · show (y 6 == some false) = true
            rw [yg]; rfl
          show GivesP _ _ _ (fun v _ => v = .bool false) _
          refine GivesP.call ((stOk_spec x true _ _ _ _ L1 _ _ _ (P1.out.later hBx).row).mono fun e w9 h9 => ⟨_, h9.1, by rw [HAo.out], h9.2⟩) ?_
          go_simp
        rcases i with _ | i
        · obtain rfl := Option.some.inj ho
          have e8 : ρ (.tmp 40) = .bool false := (hdep ⟨8, .data⟩ (by simp) rfl 40 rfl).1
          have eg : ρ (.tmp 38) = .bool false := (hdep ⟨6, .guard⟩ (by simp) rfl 38 rfl).1
          have yg : y 6 = some false := (hdep ⟨6, .guard⟩ (by simp) rfl 38 rfl).2.trans (by rw [eg]; rfl)
          have ocn : ∀ v, ρ (.const v) = v := fun v => hout (.const v) rfl
          have ofn : ∀ f, ρ (.func f) = .func (.func f) #[] #[] := fun f => hout (.func f) rfl
          clear hdep hout
          refine .inl ⟨?_, ?_⟩
          · show (y 6 == some false) = true
            rw [yg]; rfl
          show GivesP _ _ _ (fun v _ => v = .bool true) _
          refine GivesP.val (.bool true) rfl ?_
          go_simp
        rcases i with _ | i
        · obtain rfl := Option.some.inj ho
          have e6 : ρ (.tmp 38) = .bool false := (hdep ⟨6, .data⟩ (by simp) rfl 38 rfl).1
          have e9 : ρ (.tmp 41) = .bool true := (hdep ⟨9, .data⟩ (by simp) rfl 41 rfl).1
          have ocn : ∀ v, ρ (.const v) = v := fun v => hout (.const v) rfl
          have ofn : ∀ f, ρ (.func f) = .func (.func f) #[] #[] := fun f => hout (.func f) rfl
          clear hdep hout
          refine .inl ⟨?_, ?_⟩
          · rfl
          show GivesP _ _ _ (fun v _ => v = .bool true) _
          refine GivesP.val (.bool true) rfl ?_
          go_simp
        rcases i with _ | i
        · obtain rfl := Option.some.inj ho
          have e10 : ρ (.tmp 42) = .bool true := (hdep ⟨10, .data⟩ (by simp) rfl 42 rfl).1
          have ocn : ∀ v, ρ (.const v) = v := fun v => hout (.const v) rfl
          have ofn : ∀ f, ρ (.func f) = .func (.func f) #[] #[] := fun f => hout (.func f) rfl
          clear hdep hout
          refine .inl ⟨?_, ?_⟩
          · rfl
          show GivesP _ _ _ (fun v _ => v = .bool true) _
          refine GivesP.val (.bool true) rfl ?_
          go_simp
        rcases i with _ | i
        · obtain rfl := Option.some.inj ho
          have o6 : ρ (.tmp 6) = Value.pointer (some { block := x1.heap.size + 1, off := 0 }) := hout (.tmp 6) rfl
          have eg : ρ (.tmp 43) = .bool true := (hdep ⟨11, .guard⟩ (by simp) rfl 43 rfl).1
          have yg : y 11 = some true := (hdep ⟨11, .guard⟩ (by simp) rfl 43 rfl).2.trans (by rw [eg]; rfl)
          have ocn : ∀ v, ρ (.const v) = v := fun v => hout (.const v) rfl
          have ofn : ∀ f, ρ (.func f) = .func (.func f) #[] #[] := fun f => hout (.func f) rfl
          clear hdep hout
          refine .inr ⟨?_, rfl⟩
          show (y 11 == some false) = false
          rw [yg]; rfl
        rcases i with _ | i
        · obtain rfl := Option.some.inj ho
          have e12 : ρ (.tmp 44) = undef := (hdep ⟨12, .data⟩ (by simp) rfl 44 rfl).1
          have eg : ρ (.tmp 43) = .bool true := (hdep ⟨11, .guard⟩ (by simp) rfl 43 rfl).1
          have yg : y 11 = some true := (hdep ⟨11, .guard⟩ (by simp) rfl 43 rfl).2.trans (by rw [eg]; rfl)
          have ocn : ∀ v, ρ (.const v) = v := fun v => hout (.const v) rfl
          have ofn : ∀ f, ρ (.func f) = .func (.func f) #[] #[] := fun f => hout (.func f) rfl
          clear hdep hout
          refine .inr ⟨?_, rfl⟩
          show (y 11 == some false) = false
          rw [yg]; rfl
        rcases i with _ | i
        · obtain rfl := Option.some.inj ho
          have e13 : ρ (.tmp 45) = undef := (hdep ⟨13, .data⟩ (by simp) rfl 45 rfl).1
          have eg : ρ (.tmp 43) = .bool true := (hdep ⟨11, .guard⟩ (by simp) rfl 43 rfl).1
          have yg : y 11 = some true := (hdep ⟨11, .guard⟩ (by simp) rfl 43 rfl).2.trans (by rw [eg]; rfl)
          have ocn : ∀ v, ρ (.const v) = v := fun v => hout (.const v) rfl
          have ofn : ∀ f, ρ (.func f) = .func (.func f) #[] #[] := fun f => hout (.func f) rfl
          clear hdep hout
          refine .inr ⟨?_, rfl⟩
          show (y 11 == some false) = false
          rw [yg]; rfl
        rcases i with _ | i
        · obtain rfl := Option.some.inj ho
          have e11 : ρ (.tmp 43) = .bool true := (hdep ⟨11, .data⟩ (by simp) rfl 43 rfl).1
          have e14 : ρ (.tmp 46) = undef := (hdep ⟨14, .data⟩ (by simp) rfl 46 rfl).1
          have ocn : ∀ v, ρ (.const v) = v := fun v => hout (.const v) rfl
          have ofn : ∀ f, ρ (.func f) = .func (.func f) #[] #[] := fun f => hout (.func f) rfl
          clear hdep hout
          refine .inl ⟨?_, ?_⟩
          · rfl
          show GivesP _ _ _ (fun v _ => v = .bool true) _
          refine GivesP.val (.bool true) rfl ?_
          go_simp
        rcases i with _ | i
        · obtain rfl := Option.some.inj ho
          have e15 : ρ (.tmp 47) = .bool true := (hdep ⟨15, .data⟩ (by simp) rfl 47 rfl).1
          have ocn : ∀ v, ρ (.const v) = v := fun v => hout (.const v) rfl
          have ofn : ∀ f, ρ (.func f) = .func (.func f) #[] #[] := fun f => hout (.func f) rfl
          clear hdep hout
          refine .inl ⟨?_, ?_⟩
          · rfl
          show GivesP _ _ _ (fun v _ => v = .bool true) _
          refine GivesP.val (.bool true) rfl ?_
          go_simp
        rcases i with _ | i
        · obtain rfl := Option.some.inj ho
          have o7 : ρ (.tmp 7) = Value.pointer (some { block := x3.heap.size, off := 0 }) := hout (.tmp 7) rfl
          have eg : ρ (.tmp 48) = .bool true := (hdep ⟨16, .guard⟩ (by simp) rfl 48 rfl).1
          have yg : y 16 = some true := (hdep ⟨16, .guard⟩ (by simp) rfl 48 rfl).2.trans (by rw [eg]; rfl)
          have ocn : ∀ v, ρ (.const v) = v := fun v => hout (.const v) rfl
          have ofn : ∀ f, ρ (.func f) = .func (.func f) #[] #[] := fun f => hout (.func f) rfl
          clear hdep hout
          refine .inr ⟨?_, rfl⟩
          show (y 16 == some false) = false
          rw [yg]; rfl
        rcases i with _ | i
        · obtain rfl := Option.some.inj ho
          have e17 : ρ (.tmp 49) = undef := (hdep ⟨17, .data⟩ (by simp) rfl 49 rfl).1
          have eg : ρ (.tmp 48) = .bool true := (hdep ⟨16, .guard⟩ (by simp) rfl 48 rfl).1
          have yg : y 16 = some true := (hdep ⟨16, .guard⟩ (by simp) rfl 48 rfl).2.trans (by rw [eg]; rfl)
          have ocn : ∀ v, ρ (.const v) = v := fun v => hout (.const v) rfl
          have ofn : ∀ f, ρ (.func f) = .func (.func f) #[] #[] := fun f => hout (.func f) rfl
          clear hdep hout
          refine .inr ⟨?_, rfl⟩
          show (y 16 == some false) = false
          rw [yg]; rfl
        rcases i with _ | i
        · obtain rfl := Option.some.inj ho
          have e18 : ρ (.tmp 50) = undef := (hdep ⟨18, .data⟩ (by simp) rfl 50 rfl).1
          have eg : ρ (.tmp 48) = .bool true := (hdep ⟨16, .guard⟩ (by simp) rfl 48 rfl).1
          have yg : y 16 = some true := (hdep ⟨16, .guard⟩ (by simp) rfl 48 rfl).2.trans (by rw [eg]; rfl)
          have ocn : ∀ v, ρ (.const v) = v := fun v => hout (.const v) rfl
          have ofn : ∀ f, ρ (.func f) = .func (.func f) #[] #[] := fun f => hout (.func f) rfl
          clear hdep hout
          refine .inr ⟨?_, rfl⟩
          show (y 16 == some false) = false
          rw [yg]; rfl
        rcases i with _ | i
        · obtain rfl := Option.some.inj ho
          have e16 : ρ (.tmp 48) = .bool true := (hdep ⟨16, .data⟩ (by simp) rfl 48 rfl).1
          have e19 : ρ (.tmp 51) = undef := (hdep ⟨19, .data⟩ (by simp) rfl 51 rfl).1
          have ocn : ∀ v, ρ (.const v) = v := fun v => hout (.const v) rfl
          have ofn : ∀ f, ρ (.func f) = .func (.func f) #[] #[] := fun f => hout (.func f) rfl
          clear hdep hout
          refine .inl ⟨?_, ?_⟩
          · rfl
          show GivesP _ _ _ (fun v _ => v = .bool true) _
          refine GivesP.val (.bool true) rfl ?_
          go_simp
        cases ho
      case fin =>
        intro V x hBx hV
        have ev : V 20 = .bool true := hV 20 (by simp)
        clear hV
        go_wp2_with fail
        go_meet
        exact ⟨ev, HB.out.trans (hBx.mono HB.out.size), P1.out.later hBx, P2.out.later hBx, P3.out.later hBx, P5.out.later hBx⟩
    case rest =>
    rename World => z1
    clear HB P1 P2 P3 P5
    obtain ⟨rfl, HB, P1, P2, P3, P5⟩ := hcut
    go_wp2_with fail
    go_cut [4] (fun s y => s = .bool true ∧ Hid (Below w.heap.size w y) ∧ Hid (Pr y w.heap.size x1.heap.size x1.heap.size a1 p1 n1 cap1 c1 l1 u1 L1) ∧ Hid (Pr y w.heap.size x1.heap.size (x1.heap.size + 1) a2 p2 n2 cap2 c2 l2 u2 L2) ∧ Hid (Pr y y1.heap.size x3.heap.size x3.heap.size a3 p3 n3 cap3 c3 l3 u3 L3) ∧ Hid (Pr y y3.heap.size x5.heap.size x5.heap.size ra p5 n5 cap5 rc rl ru rL))
    case first =>
      have hBd : Below z1.heap.size z1 z1.drew := (Below.refl _ _).drew
      refine wp_region_preds (by kernel_rfl) (by kernel_rfl) (by kernel_rfl) (by kernel_rfl) (fun j => [(fun v _ => v = .agg #[.bool ra, .slice p5 n5 cap5, .bool rc, .int .i64 rl, .int .i64 ru]), (fun v _ => v = .agg #[.bool a1, .slice p1 n1 cap1, .bool c1, .int .i64 l1, .int .i64 u1]), (fun v _ => v = .agg #[.bool a2, .slice p2 n2 cap2, .bool c2, .int .i64 l2, .int .i64 u2]), (fun v x => StV (ra, rL, rc, rl, ru) v x), (fun v _ => v = .bool true), (fun v _ => v = .bool true)].getD j (fun _ _ => True)) ?stable z1 hBd ?step (fun V => ⟨List.toArray ((Value.slice a len cap) :: (Value.slice b lenb capb) :: (undef) :: (undef) :: (V 5) :: (Value.pointer (some { block := x1.heap.size, off := 0 })) :: (Value.pointer (some { block := x1.heap.size + 1, off := 0 })) :: (Value.pointer (some { block := x3.heap.size, off := 0 })) :: (u8) :: (Value.pointer (some { block := x5.heap.size, off := 0 })) :: (undef) :: (u11) :: (u12) :: (u13) :: (u14) :: (u15) :: (u16) :: (u17) :: (u18) :: (u19) :: (u20) :: (u21) :: (u22) :: (u23) :: (u24) :: (u25) :: (u26) :: (u27) :: (u28) :: (u29) :: (u30) :: (u31) :: (u32) :: (u33) :: (u34) :: (u35) :: (u36) :: (u37) :: (u38) :: (u39) :: (u40) :: (u41) :: (u42) :: (u43) :: (u44) :: (u45) :: (u46) :: (u47) :: (u48) :: (u49) :: (u50) :: (u51) :: (Value.bool true) :: (V 0) :: (V 1) :: (V 2) :: (V 3) :: (V 4) :: (u58) :: (u59) :: (u60) :: (u61) :: (u62) :: (u63) :: (u64) :: (u65) :: (u66) :: (u67) :: (u68) :: (u69) :: (u70) :: (u71) :: (u72) :: (u73) :: (u74) :: (u75) :: (u76) :: (u77) :: (u78) :: (u79) :: (u80) :: (u81) :: (u82) :: (u83) :: (u84) :: (u85) :: (u86) :: (u87) :: (u88) :: (u89) :: (u90) :: (u91) :: (u92) :: (u93) :: (u94) :: (u95) :: (u96) :: (u97) :: (u98) :: (u99) :: (u100) :: (u101) :: (u102) :: (u103) :: (u104) :: (u105) :: (u106) :: (u107) :: (u108) :: (u109) :: (u110) :: (u111) :: (u112) :: (u113) :: (u114) :: []), []⟩) (fun V => by kernel_rfl) ?fin
      case stable =>
        intro i v x y ht hb
        rcases i with _ | i
        · exact ht
        rcases i with _ | i
        · exact ht
        rcases i with _ | i
        · exact ht
        rcases i with _ | i
        · exact StV.later ht hb
        rcases i with _ | i
        · exact ht
        rcases i with _ | i
        · exact ht
        exact trivial
      case step =>
        intro i o ho ρ y x hBx hdep hout
        rcases i with _ | i
        · obtain rfl := Option.some.inj ho
          have o9 : ρ (.tmp 9) = Value.pointer (some { block := x5.heap.size, off := 0 }) := hout (.tmp 9) rfl
          have ocn : ∀ v, ρ (.const v) = v := fun v => hout (.const v) rfl
          have ofn : ∀ f, ρ (.func f) = .func (.func f) #[] #[] := fun f => hout (.func f) rfl
          clear hdep hout
          refine .inl ⟨?_, ?_⟩
          · rfl
          obtain ⟨_, cc0, cc1, cc2, cc3, cc4, _⟩ := (P5.out.later hBx).box
          show GivesP _ _ _ (fun v _ => v = .agg #[.bool ra, .slice p5 n5 cap5, .bool rc, .int .i64 rl, .int .i64 ru]) _
          refine GivesP.val (.agg #[.bool ra, .slice p5 n5 cap5, .bool rc, .int .i64 rl, .int .i64 ru]) rfl ?_
          go_simp
        rcases i with _ | i
        · obtain rfl := Option.some.inj ho
          have o5 : ρ (.tmp 5) = Value.pointer (some { block := x1.heap.size, off := 0 }) := hout (.tmp 5) rfl
          have ocn : ∀ v, ρ (.const v) = v := fun v => hout (.const v) rfl
          have ofn : ∀ f, ρ (.func f) = .func (.func f) #[] #[] := fun f => hout (.func f) rfl
          clear hdep hout
          refine .inl ⟨?_, ?_⟩
          · rfl
          obtain ⟨_, cc0, cc1, cc2, cc3, cc4, _⟩ := (P1.out.later hBx).box
          show GivesP _ _ _ (fun v _ => v = .agg #[.bool a1, .slice p1 n1 cap1, .bool c1, .int .i64 l1, .int .i64 u1]) _
          refine GivesP.val (.agg #[.bool a1, .slice p1 n1 cap1, .bool c1, .int .i64 l1, .int .i64 u1]) rfl ?_
          go_simp
        rcases i with _ | i
        · obtain rfl := Option.some.inj ho
          have o6 : ρ (.tmp 6) = Value.pointer (some { block := x1.heap.size + 1, off := 0 }) := hout (.tmp 6) rfl
          have ocn : ∀ v, ρ (.const v) = v := fun v => hout (.const v) rfl
          have ofn : ∀ f, ρ (.func f) = .func (.func f) #[] #[] := fun f => hout (.func f) rfl
          clear hdep hout
          refine .inl ⟨?_, ?_⟩
          · rfl
          obtain ⟨_, cc0, cc1, cc2, cc3, cc4, _⟩ := (P2.out.later hBx).box
          show GivesP _ _ _ (fun v _ => v = .agg #[.bool a2, .slice p2 n2 cap2, .bool c2, .int .i64 l2, .int .i64 u2]) _
          refine GivesP.val (.agg #[.bool a2, .slice p2 n2 cap2, .bool c2, .int .i64 l2, .int .i64 u2]) rfl ?_
          go_simp
        rcases i with _ | i
        · obtain rfl := Option.some.inj ho
          have e1 : ρ (.tmp 54) = .agg #[.bool a1, .slice p1 n1 cap1, .bool c1, .int .i64 l1, .int .i64 u1] := (hdep ⟨1, .data⟩ (by simp) rfl 54 rfl).1
          have e2 : ρ (.tmp 55) = .agg #[.bool a2, .slice p2 n2 cap2, .bool c2, .int .i64 l2, .int .i64 u2] := (hdep ⟨2, .data⟩ (by simp) rfl 55 rfl).1
          have ocn : ∀ v, ρ (.const v) = v := fun v => hout (.const v) rfl
          have ofn : ∀ f, ρ (.func f) = .func (.func f) #[] #[] := fun f => hout (.func f) rfl
          clear hdep hout
          refine .inl ⟨?_, ?_⟩
          · rfl
          show GivesP _ _ _ (fun v x => StV (ra, rL, rc, rl, ru) v x) _
          refine GivesP.call ((stJoin_spec x true true _ _ _ _ _ _ L1 _ _ _ _ _ L2 _ _ _ (P1.out.later hBx).row (P2.out.later hBx).row).mono fun e w9 h9 => stV_of h9 HR.out) ?_
          go_simp
        rcases i with _ | i
        · obtain rfl := Option.some.inj ho
          have e0 : ρ (.tmp 53) = .agg #[.bool ra, .slice p5 n5 cap5, .bool rc, .int .i64 rl, .int .i64 ru] := (hdep ⟨0, .data⟩ (by simp) rfl 53 rfl).1
          have t3 : StV (ra, rL, rc, rl, ru) (ρ (.tmp 56)) x := (hdep ⟨3, .data⟩ (by simp) rfl 56 rfl).1
          obtain ⟨q3, k3, B3, E3, e3, s3⟩ := t3
          have ocn : ∀ v, ρ (.const v) = v := fun v => hout (.const v) rfl
          have ofn : ∀ f, ρ (.func f) = .func (.func f) #[] #[] := fun f => hout (.func f) rfl
          clear hdep hout
          refine .inl ⟨?_, ?_⟩
          · rfl
          show GivesP _ _ _ (fun v _ => v = .bool true) _
          refine GivesP.call ((lgState_same x true true _ _ _ _ ra _ _ rL rc rl ru (P5.out.later hBx).row s3).mono fun e w9 h9 => ⟨_, h9.1, rfl, h9.2⟩) ?_
          go_simp
        rcases i with _ | i
        · obtain rfl := Option.some.inj ho
          have e4 : ρ (.tmp 57) = .bool true := (hdep ⟨4, .data⟩ (by simp) rfl 57 rfl).1
          have ocn : ∀ v, ρ (.const v) = v := fun v => hout (.const v) rfl
          have ofn : ∀ f, ρ (.func f) = .func (.func f) #[] #[] := fun f => hout (.func f) rfl
          clear hdep hout
          refine .inl ⟨?_, ?_⟩
          · rfl
          show GivesP _ _ _ (fun v _ => v = .bool true) _
          refine GivesP.val (.bool true) rfl ?_
          go_simp
        cases ho
      case fin =>
        intro V x hBx hV
        have ev : V 5 = .bool true := hV 5 (by simp)
        clear hV
        go_wp2_with fail
        go_meet
        exact ⟨ev, HB.out.trans (hBx.mono HB.out.size), P1.out.later hBx, P2.out.later hBx, P3.out.later hBx, P5.out.later hBx⟩
    case rest =>
    rename World => z2
    clear HB P1 P2 P3 P5
    obtain ⟨rfl, HB, P1, P2, P3, P5⟩ := hcut
    go_wp2_with fail
    go_ret
    exact ⟨rfl, HB.out⟩
  · skip
    have HAo : Hid (stOk a1 L1 (c1, l1, u1) = true) := hoa
    clear hoa
    cases hob : stOk a2 L2 (c2, l2, u2)
    · skip
      have HBo : Hid (stOk a2 L2 (c2, l2, u2) = false) := hob
      clear hob
      go_cut [52] (fun s y => s = .bool true ∧ Hid (Below w.heap.size w y) ∧ Hid (Pr y w.heap.size x1.heap.size x1.heap.size a1 p1 n1 cap1 c1 l1 u1 L1) ∧ Hid (Pr y w.heap.size x1.heap.size (x1.heap.size + 1) a2 p2 n2 cap2 c2 l2 u2 L2) ∧ Hid (Pr y y1.heap.size x3.heap.size x3.heap.size a3 p3 n3 cap3 c3 l3 u3 L3) ∧ Hid (Pr y y3.heap.size x5.heap.size x5.heap.size ra p5 n5 cap5 rc rl ru rL))
      case first =>
        have hBd : Below y5.heap.size y5 y5.drew := (Below.refl _ _).drew
        refine wp_region_preds (by kernel_rfl) (by kernel_rfl) (by kernel_rfl) (by kernel_rfl) (fun j => [(fun v _ => v = .agg #[.bool ra, .slice p5 n5 cap5, .bool rc, .int .i64 rl, .int .i64 ru]), (fun v _ => v = .agg #[.bool a1, .slice p1 n1 cap1, .bool c1, .int .i64 l1, .int .i64 u1]), (fun v _ => v = .agg #[.bool a2, .slice p2 n2 cap2, .bool c2, .int .i64 l2, .int .i64 u2]), (fun v x => StV (ra, rL, rc, rl, ru) v x), (fun v _ => v = .bool true), (fun v _ => v = .bool false), (fun v _ => v = .bool false), (fun v _ => v = .agg #[.bool a1, .slice p1 n1 cap1, .bool c1, .int .i64 l1, .int .i64 u1]), (fun v _ => v = .bool true), (fun v _ => v = .bool false), (fun v _ => v = .bool false), (fun v _ => v = .bool false), (fun v _ => v = .agg #[.bool a2, .slice p2 n2 cap2, .bool c2, .int .i64 l2, .int .i64 u2]), (fun v _ => v = .bool false), (fun v _ => v = .bool true), (fun v _ => v = .bool true), (fun v _ => v = .bool true), (fun v _ => v = undef), (fun v _ => v = undef), (fun v _ => v = undef), (fun v _ => v = .bool true)].getD j (fun _ _ => True)) ?stable y5 hBd ?step (fun V => ⟨List.toArray ((Value.slice a len cap) :: (Value.slice b lenb capb) :: (undef) :: (undef) :: (Value.bool false) :: (Value.pointer (some { block := x1.heap.size, off := 0 })) :: (Value.pointer (some { block := x1.heap.size + 1, off := 0 })) :: (Value.pointer (some { block := x3.heap.size, off := 0 })) :: (Value.pointer (some { block := x3.heap.size + 1, off := 0 })) :: (Value.pointer (some { block := x5.heap.size, off := 0 })) :: (undef) :: (Value.slice a len cap) :: (Value.int IntKind.i64 ↑len) :: (Value.bool false) :: (Value.bool false) :: (Value.slice b lenb capb) :: (Value.int IntKind.i64 ↑lenb) :: (Value.bool false) :: (Value.bool false) :: (Value.tuple #[Value.agg #[Value.bool a1, Value.slice p1 n1 cap1, Value.bool c1, Value.int IntKind.i64 l1, Value.int IntKind.i64 u1], Value.agg #[Value.bool a2, Value.slice p2 n2 cap2, Value.bool c2, Value.int IntKind.i64 l2, Value.int IntKind.i64 u2]]) :: (Value.slice a len cap) :: (Value.tuple #[Value.agg #[Value.bool a1, Value.slice p1 n1 cap1, Value.bool c1, Value.int IntKind.i64 l1, Value.int IntKind.i64 u1], Value.agg #[Value.bool a2, Value.slice p2 n2 cap2, Value.bool c2, Value.int IntKind.i64 l2, Value.int IntKind.i64 u2]]) :: (Value.agg #[Value.bool a1, Value.slice p1 n1 cap1, Value.bool c1, Value.int IntKind.i64 l1, Value.int IntKind.i64 u1]) :: (Value.agg #[Value.bool a2, Value.slice p2 n2 cap2, Value.bool c2, Value.int IntKind.i64 l2, Value.int IntKind.i64 u2]) :: (Value.tuple #[Value.agg #[Value.bool a3, Value.slice p3 n3 cap3, Value.bool c3, Value.int IntKind.i64 l3, Value.int IntKind.i64 u3], Value.agg #[Value.bool a4, Value.slice p4 n4 cap4, Value.bool c4, Value.int IntKind.i64 l4, Value.int IntKind.i64 u4]]) :: (Value.slice b lenb capb) :: (Value.tuple #[Value.agg #[Value.bool a3, Value.slice p3 n3 cap3, Value.bool c3, Value.int IntKind.i64 l3, Value.int IntKind.i64 u3], Value.agg #[Value.bool a4, Value.slice p4 n4 cap4, Value.bool c4, Value.int IntKind.i64 l4, Value.int IntKind.i64 u4]]) :: (Value.agg #[Value.bool a3, Value.slice p3 n3 cap3, Value.bool c3, Value.int IntKind.i64 l3, Value.int IntKind.i64 u3]) :: (Value.agg #[Value.bool a4, Value.slice p4 n4 cap4, Value.bool c4, Value.int IntKind.i64 l4, Value.int IntKind.i64 u4]) :: (Value.agg #[Value.bool a1, Value.slice p1 n1 cap1, Value.bool c1, Value.int IntKind.i64 l1, Value.int IntKind.i64 u1]) :: (Value.agg #[Value.bool a2, Value.slice p2 n2 cap2, Value.bool c2, Value.int IntKind.i64 l2, Value.int IntKind.i64 u2]) :: (Value.agg #[Value.bool ra, Value.slice p5 n5 cap5, Value.bool rc, Value.int IntKind.i64 rl, Value.int IntKind.i64 ru]) :: (V 0) :: (V 1) :: (V 2) :: (V 3) :: (V 4) :: (V 5) :: (V 6) :: (V 7) :: (V 8) :: (V 9) :: (V 10) :: (V 11) :: (V 12) :: (V 13) :: (V 14) :: (V 15) :: (V 16) :: (V 17) :: (V 18) :: (V 19) :: (V 20) :: (undef) :: (undef) :: (undef) :: (undef) :: (undef) :: (undef) :: (undef) :: (undef) :: (undef) :: (undef) :: (undef) :: (undef) :: (undef) :: (undef) :: (undef) :: (undef) :: (undef) :: (undef) :: (undef) :: (undef) :: (undef) :: (undef) :: (undef) :: (undef) :: (undef) :: (undef) :: (undef) :: (undef) :: (undef) :: (undef) :: (undef) :: (undef) :: (undef) :: (undef) :: (undef) :: (undef) :: (undef) :: (undef) :: (undef) :: (undef) :: (undef) :: (undef) :: (undef) :: (undef) :: (undef) :: (undef) :: (undef) :: (undef) :: (undef) :: (undef) :: (undef) :: (undef) :: (undef) :: (undef) :: (undef) :: (undef) :: (undef) :: (undef) :: (undef) :: (undef) :: (undef) :: (undef) :: []), []⟩) (fun V => by kernel_rfl) ?fin
        case stable =>
          intro i v x y ht hb
          rcases i with _ | i
          · exact ht
          rcases i with _ | i
          · exact ht
          rcases i with _ | i
          · exact ht
          rcases i with _ | i
          · exact StV.later ht hb
          rcases i with _ | i
          · exact ht
          rcases i with _ | i
          · exact ht
          rcases i with _ | i
          · exact ht
          rcases i with _ | i
          · exact ht
          rcases i with _ | i
          · exact ht
          rcases i with _ | i
          · exact ht
          rcases i with _ | i
          · exact ht
          rcases i with _ | i
          · exact ht
          rcases i with _ | i
          · exact ht
          rcases i with _ | i
          · exact ht
          rcases i with _ | i
          · exact ht
          rcases i with _ | i
          · exact ht
          rcases i with _ | i
          · exact ht
          rcases i with _ | i
          · exact ht
          rcases i with _ | i
          · exact ht
          rcases i with _ | i
          · exact ht
          rcases i with _ | i
          · exact ht
          exact trivial
        case step =>
          intro i o ho ρ y x hBx hdep hout
          rcases i with _ | i
          · obtain rfl := Option.some.inj ho
            have o9 : ρ (.tmp 9) = Value.pointer (some { block := x5.heap.size, off := 0 }) := hout (.tmp 9) rfl
            have ocn : ∀ v, ρ (.const v) = v := fun v => hout (.const v) rfl
            have ofn : ∀ f, ρ (.func f) = .func (.func f) #[] #[] := fun f => hout (.func f) rfl
            clear hdep hout
            refine .inl ⟨?_, ?_⟩
            · rfl
            obtain ⟨_, cc0, cc1, cc2, cc3, cc4, _⟩ := (P5.out.later hBx).box
            show GivesP _ _ _ (fun v _ => v = .agg #[.bool ra, .slice p5 n5 cap5, .bool rc, .int .i64 rl, .int .i64 ru]) _
            refine GivesP.val (.agg #[.bool ra, .slice p5 n5 cap5, .bool rc, .int .i64 rl, .int .i64 ru]) rfl ?_
            go_simp
          rcases i with _ | i
          · obtain rfl := Option.some.inj ho
            have o5 : ρ (.tmp 5) = Value.pointer (some { block := x1.heap.size, off := 0 }) := hout (.tmp 5) rfl
            have ocn : ∀ v, ρ (.const v) = v := fun v => hout (.const v) rfl
            have ofn : ∀ f, ρ (.func f) = .func (.func f) #[] #[] := fun f => hout (.func f) rfl
            clear hdep hout
            refine .inl ⟨?_, ?_⟩
            · rfl
            obtain ⟨_, cc0, cc1, cc2, cc3, cc4, _⟩ := (P1.out.later hBx).box
            show GivesP _ _ _ (fun v _ => v = .agg #[.bool a1, .slice p1 n1 cap1, .bool c1, .int .i64 l1, .int .i64 u1]) _
            refine GivesP.val (.agg #[.bool a1, .slice p1 n1 cap1, .bool c1, .int .i64 l1, .int .i64 u1]) rfl ?_
            go_simp
          rcases i with _ | i
          · obtain rfl := Option.some.inj ho
            have o6 : ρ (.tmp 6) = Value.pointer (some { block := x1.heap.size + 1, off := 0 }) := hout (.tmp 6) rfl
            have ocn : ∀ v, ρ (.const v) = v := fun v => hout (.const v) rfl
            have ofn : ∀ f, ρ (.func f) = .func (.func f) #[] #[] := fun f => hout (.func f) rfl
            clear hdep hout
            refine .inl ⟨?_, ?_⟩
            · rfl
            obtain ⟨_, cc0, cc1, cc2, cc3, cc4, _⟩ := (P2.out.later hBx).box
            show GivesP _ _ _ (fun v _ => v = .agg #[.bool a2, .slice p2 n2 cap2, .bool c2, .int .i64 l2, .int .i64 u2]) _
            refine GivesP.val (.agg #[.bool a2, .slice p2 n2 cap2, .bool c2, .int .i64 l2, .int .i64 u2]) rfl ?_
            go_simp
          rcases i with _ | i
          · obtain rfl := Option.some.inj ho
            have e1 : ρ (.tmp 33) = .agg #[.bool a1, .slice p1 n1 cap1, .bool c1, .int .i64 l1, .int .i64 u1] := (hdep ⟨1, .data⟩ (by simp) rfl 33 rfl).1
            have e2 : ρ (.tmp 34) = .agg #[.bool a2, .slice p2 n2 cap2, .bool c2, .int .i64 l2, .int .i64 u2] := (hdep ⟨2, .data⟩ (by simp) rfl 34 rfl).1
            have ocn : ∀ v, ρ (.const v) = v := fun v => hout (.const v) rfl
            have ofn : ∀ f, ρ (.func f) = .func (.func f) #[] #[] := fun f => hout (.func f) rfl
            clear hdep hout
            refine .inl ⟨?_, ?_⟩
            · rfl
            show GivesP _ _ _ (fun v x => StV (ra, rL, rc, rl, ru) v x) _
            refine GivesP.call ((stJoin_spec x true true _ _ _ _ _ _ L1 _ _ _ _ _ L2 _ _ _ (P1.out.later hBx).row (P2.out.later hBx).row).mono fun e w9 h9 => stV_of h9 HR.out) ?_
            go_simp
          rcases i with _ | i
          · obtain rfl := Option.some.inj ho
            have e0 : ρ (.tmp 32) = .agg #[.bool ra, .slice p5 n5 cap5, .bool rc, .int .i64 rl, .int .i64 ru] := (hdep ⟨0, .data⟩ (by simp) rfl 32 rfl).1
            have t3 : StV (ra, rL, rc, rl, ru) (ρ (.tmp 35)) x := (hdep ⟨3, .data⟩ (by simp) rfl 35 rfl).1
            obtain ⟨q3, k3, B3, E3, e3, s3⟩ := t3
            have ocn : ∀ v, ρ (.const v) = v := fun v => hout (.const v) rfl
            have ofn : ∀ f, ρ (.func f) = .func (.func f) #[] #[] := fun f => hout (.func f) rfl
            clear hdep hout
            refine .inl ⟨?_, ?_⟩
            · rfl
            show GivesP _ _ _ (fun v _ => v = .bool true) _
            refine GivesP.call ((lgState_same x true true _ _ _ _ ra _ _ rL rc rl ru (P5.out.later hBx).row s3).mono fun e w9 h9 => ⟨_, h9.1, rfl, h9.2⟩) ?_
            go_simp
          rcases i with _ | i
          · obtain rfl := Option.some.inj ho
            have e4 : ρ (.tmp 36) = .bool true := (hdep ⟨4, .data⟩ (by simp) rfl 36 rfl).1
            have ocn : ∀ v, ρ (.const v) = v := fun v => hout (.const v) rfl
            have ofn : ∀ f, ρ (.func f) = .func (.func f) #[] #[] := fun f => hout (.func f) rfl
            clear hdep hout
            refine .inl ⟨?_, ?_⟩
            · rfl
            show GivesP _ _ _ (fun v _ => v = .bool false) _
            refine GivesP.val (.bool false) rfl ?_
            go_simp
          rcases i with _ | i
          · obtain rfl := Option.some.inj ho
            have e5 : ρ (.tmp 37) = .bool false := (hdep ⟨5, .data⟩ (by simp) rfl 37 rfl).1
            have ocn : ∀ v, ρ (.const v) = v := fun v => hout (.const v) rfl
            have ofn : ∀ f, ρ (.func f) = .func (.func f) #[] #[] := fun f => hout (.func f) rfl
            clear hdep hout
            refine .inl ⟨?_, ?_⟩
            · rfl
            show GivesP _ _ _ (fun v _ => v = .bool false) _
            refine GivesP.val (.bool false) rfl ?_
            go_simp
          rcases i with _ | i
          · obtain rfl := Option.some.inj ho
            have o5 : ρ (.tmp 5) = Value.pointer (some { block := x1.heap.size, off := 0 }) := hout (.tmp 5) rfl
            have eg : ρ (.tmp 38) = .bool false := (hdep ⟨6, .guard⟩ (by simp) rfl 38 rfl).1
            have yg : y 6 = some false := (hdep ⟨6, .guard⟩ (by simp) rfl 38 rfl).2.trans (by rw [eg]; rfl)
            have ocn : ∀ v, ρ (.const v) = v := fun v => hout (.const v) rfl
            have ofn : ∀ f, ρ (.func f) = .func (.func f) #[] #[] := fun f => hout (.func f) rfl
            clear hdep hout
            refine .inl ⟨?_, ?_⟩
            · show (y 6 == some false) = true
              rw [yg]; rfl
            obtain ⟨_, cc0, cc1, cc2, cc3, cc4, _⟩ := (P1.out.later hBx).box
            show GivesP _ _ _ (fun v _ => v = .agg #[.bool a1, .slice p1 n1 cap1, .bool c1, .int .i64 l1, .int .i64 u1]) _
            refine GivesP.val (.agg #[.bool a1, .slice p1 n1 cap1, .bool c1, .int .i64 l1, .int .i64 u1]) rfl ?_
            go_simp
          rcases i with _ | i
          · obtain rfl := Option.some.inj ho
            have e7 : ρ (.tmp 39) = .agg #[.bool a1, .slice p1 n1 cap1, .bool c1, .int .i64 l1, .int .i64 u1] := (hdep ⟨7, .data⟩ (by simp) rfl 39 rfl).1
            have eg : ρ (.tmp 38) = .bool false := (hdep ⟨6, .guard⟩ (by simp) rfl 38 rfl).1
            have yg : y 6 = some false := (hdep ⟨6, .guard⟩ (by simp) rfl 38 rfl).2.trans (by rw [eg]; rfl)
            have ocn : ∀ v, ρ (.const v) = v := fun v => hout (.const v) rfl
            have ofn : ∀ f, ρ (.func f) = .func (.func f) #[] #[] := fun f => hout (.func f) rfl
            clear hdep hout
            refine .inl ⟨?_, ?_⟩
            · show (y 6 == some false) = true
              rw [yg]; rfl
            show GivesP _ _ _ (fun v _ => v = .bool true) _
            refine GivesP.call ((stOk_spec x true _ _ _ _ L1 _ _ _ (P1.out.later hBx).row).mono fun e w9 h9 => ⟨_, h9.1, by rw [HAo.out], h9.2⟩) ?_
            go_simp
          rcases i with _ | i
          · obtain rfl := Option.some.inj ho
            have e8 : ρ (.tmp 40) = .bool true := (hdep ⟨8, .data⟩ (by simp) rfl 40 rfl).1
            have eg : ρ (.tmp 38) = .bool false := (hdep ⟨6, .guard⟩ (by simp) rfl 38 rfl).1
            have yg : y 6 = some false := (hdep ⟨6, .guard⟩ (by simp) rfl 38 rfl).2.trans (by rw [eg]; rfl)
            have ocn : ∀ v, ρ (.const v) = v := fun v => hout (.const v) rfl
            have ofn : ∀ f, ρ (.func f) = .func (.func f) #[] #[] := fun f => hout (.func f) rfl
            clear hdep hout
            refine .inl ⟨?_, ?_⟩
            · show (y 6 == some false) = true
              rw [yg]; rfl
            show GivesP _ _ _ (fun v _ => v = .bool false) _
            refine GivesP.val (.bool false) rfl ?_
            go_simp
          rcases i with _ | i
          · obtain rfl := Option.some.inj ho
            have e6 : ρ (.tmp 38) = .bool false := (hdep ⟨6, .data⟩ (by simp) rfl 38 rfl).1
            have e9 : ρ (.tmp 41) = .bool false := (hdep ⟨9, .data⟩ (by simp) rfl 41 rfl).1
            have ocn : ∀ v, ρ (.const v) = v := fun v => hout (.const v) rfl
            have ofn : ∀ f, ρ (.func f) = .func (.func f) #[] #[] := fun f => hout (.func f) rfl
            clear hdep hout
            refine .inl ⟨?_, ?_⟩
            · rfl
            show GivesP _ _ _ (fun v _ => v = .bool false) _
            refine GivesP.val (.bool false) rfl ?_
            go_simp
          rcases i with _ | i
          · obtain rfl := Option.some.inj ho
            have e10 : ρ (.tmp 42) = .bool false := (hdep ⟨10, .data⟩ (by simp) rfl 42 rfl).1
            have ocn : ∀ v, ρ (.const v) = v := fun v => hout (.const v) rfl
            have ofn : ∀ f, ρ (.func f) = .func (.func f) #[] #[] := fun f => hout (.func f) rfl
            clear hdep hout
            refine .inl ⟨?_, ?_⟩
            · rfl
            show GivesP _ _ _ (fun v _ => v = .bool false) _
            refine GivesP.val (.bool false) rfl ?_
            go_simp
          rcases i with _ | i
          · obtain rfl := Option.some.inj ho
            have o6 : ρ (.tmp 6) = Value.pointer (some { block := x1.heap.size + 1, off := 0 }) := hout (.tmp 6) rfl
            have eg : ρ (.tmp 43) = .bool false := (hdep ⟨11, .guard⟩ (by simp) rfl 43 rfl).1
            have yg : y 11 = some false := (hdep ⟨11, .guard⟩ (by simp) rfl 43 rfl).2.trans (by rw [eg]; rfl)
            have ocn : ∀ v, ρ (.const v) = v := fun v => hout (.const v) rfl
            have ofn : ∀ f, ρ (.func f) = .func (.func f) #[] #[] := fun f => hout (.func f) rfl
            clear hdep hout
            refine .inl ⟨?_, ?_⟩
            · show (y 11 == some false) = true
              rw [yg]; rfl
            obtain ⟨_, cc0, cc1, cc2, cc3, cc4, _⟩ := (P2.out.later hBx).box
            show GivesP _ _ _ (fun v _ => v = .agg #[.bool a2, .slice p2 n2 cap2, .bool c2, .int .i64 l2, .int .i64 u2]) _
            refine GivesP.val (.agg #[.bool a2, .slice p2 n2 cap2, .bool c2, .int .i64 l2, .int .i64 u2]) rfl ?_
            go_simp
          rcases i with _ | i
          · obtain rfl := Option.some.inj ho
            have e12 : ρ (.tmp 44) = .agg #[.bool a2, .slice p2 n2 cap2, .bool c2, .int .i64 l2, .int .i64 u2] := (hdep ⟨12, .data⟩ (by simp) rfl 44 rfl).1
            have eg : ρ (.tmp 43) = .bool false := (hdep ⟨11, .guard⟩ (by simp) rfl 43 rfl).1
            have yg : y 11 = some false := (hdep ⟨11, .guard⟩ (by simp) rfl 43 rfl).2.trans (by rw [eg]; rfl)
            have ocn : ∀ v, ρ (.const v) = v := fun v => hout (.const v) rfl
            have ofn : ∀ f, ρ (.func f) = .func (.func f) #[] #[] := fun f => hout (.func f) rfl
            clear hdep hout
            refine .inl ⟨?_, ?_⟩
            · show (y 11 == some false) = true
              rw [yg]; rfl
            show GivesP _ _ _ (fun v _ => v = .bool false) _
            refine GivesP.call ((stOk_spec x true _ _ _ _ L2 _ _ _ (P2.out.later hBx).row).mono fun e w9 h9 => ⟨_, h9.1, by rw [HBo.out], h9.2⟩) ?_
            go_simp
          rcases i with _ | i
          · obtain rfl := Option.some.inj ho
            have e13 : ρ (.tmp 45) = .bool false := (hdep ⟨13, .data⟩ (by simp) rfl 45 rfl).1
            have eg : ρ (.tmp 43) = .bool false := (hdep ⟨11, .guard⟩ (by simp) rfl 43 rfl).1
            have yg : y 11 = some false := (hdep ⟨11, .guard⟩ (by simp) rfl 43 rfl).2.trans (by rw [eg]; rfl)
            have ocn : ∀ v, ρ (.const v) = v := fun v => hout (.const v) rfl
            have ofn : ∀ f, ρ (.func f) = .func (.func f) #[] #[] := fun f => hout (.func f) rfl
            clear hdep hout
            refine .inl ⟨?_, ?_⟩
            · show (y 11 == some false) = true
              rw [yg]; rfl
            show GivesP _ _ _ (fun v _ => v = .bool true) _
            refine GivesP.val (.bool true) rfl ?_
            go_simp
          rcases i with _ | i
          · obtain rfl := Option.some.inj ho
            have e11 : ρ (.tmp 43) = .bool false := (hdep ⟨11, .data⟩ (by simp) rfl 43 rfl).1
            have e14 : ρ (.tmp 46) = .bool true := (hdep ⟨14, .data⟩ (by simp) rfl 46 rfl).1
            have ocn : ∀ v, ρ (.const v) = v := fun v => hout (.const v) rfl
            have ofn : ∀ f, ρ (.func f) = .func (.func f) #[] #[] := fun f => hout (.func f) rfl
            clear hdep hout
            refine .inl ⟨?_, ?_⟩
            · rfl
            show GivesP _ _ _ (fun v _ => v = .bool true) _
            refine GivesP.val (.bool true) rfl ?_
            go_simp
          rcases i with _ | i
          · obtain rfl := Option.some.inj ho
            have e15 : ρ (.tmp 47) = .bool true := (hdep ⟨15, .data⟩ (by simp) rfl 47 rfl).1
            have ocn : ∀ v, ρ (.const v) = v := fun v => hout (.const v) rfl
            have ofn : ∀ f, ρ (.func f) = .func (.func f) #[] #[] := fun f => hout (.func f) rfl
            clear hdep hout
            refine .inl ⟨?_, ?_⟩
            · rfl
            show GivesP _ _ _ (fun v _ => v = .bool true) _
            refine GivesP.val (.bool true) rfl ?_
            go_simp
          rcases i with _ | i
          · obtain rfl := Option.some.inj ho
            have o7 : ρ (.tmp 7) = Value.pointer (some { block := x3.heap.size, off := 0 }) := hout (.tmp 7) rfl
            have eg : ρ (.tmp 48) = .bool true := (hdep ⟨16, .guard⟩ (by simp) rfl 48 rfl).1
            have yg : y 16 = some true := (hdep ⟨16, .guard⟩ (by simp) rfl 48 rfl).2.trans (by rw [eg]; rfl)
            have ocn : ∀ v, ρ (.const v) = v := fun v => hout (.const v) rfl
            have ofn : ∀ f, ρ (.func f) = .func (.func f) #[] #[] := fun f => hout (.func f) rfl
            clear hdep hout
            refine .inr ⟨?_, rfl⟩
            show (y 16 == some false) = false
            rw [yg]; rfl
          rcases i with _ | i
          · obtain rfl := Option.some.inj ho
            have e17 : ρ (.tmp 49) = undef := (hdep ⟨17, .data⟩ (by simp) rfl 49 rfl).1
            have eg : ρ (.tmp 48) = .bool true := (hdep ⟨16, .guard⟩ (by simp) rfl 48 rfl).1
            have yg : y 16 = some true := (hdep ⟨16, .guard⟩ (by simp) rfl 48 rfl).2.trans (by rw [eg]; rfl)
            have ocn : ∀ v, ρ (.const v) = v := fun v => hout (.const v) rfl
            have ofn : ∀ f, ρ (.func f) = .func (.func f) #[] #[] := fun f => hout (.func f) rfl
            clear hdep hout
            refine .inr ⟨?_, rfl⟩
            show (y 16 == some false) = false
            rw [yg]; rfl
          rcases i with _ | i
          · obtain rfl := Option.some.inj ho
            have e18 : ρ (.tmp 50) = undef := (hdep ⟨18, .data⟩ (by simp) rfl 50 rfl).1
            have eg : ρ (.tmp 48) = .bool true := (hdep ⟨16, .guard⟩ (by simp) rfl 48 rfl).1
            have yg : y 16 = some true := (hdep ⟨16, .guard⟩ (by simp) rfl 48 rfl).2.trans (by rw [eg]; rfl)
            have ocn : ∀ v, ρ (.const v) = v := fun v => hout (.const v) rfl
            have ofn : ∀ f, ρ (.func f) = .func (.func f) #[] #[] := fun f => hout (.func f) rfl
            clear hdep hout
            refine .inr ⟨?_, rfl⟩
            show (y 16 == some false) = false
            rw [yg]; rfl
          rcases i with _ | i
          · obtain rfl := Option.some.inj ho
            have e16 : ρ (.tmp 48) = .bool true := (hdep ⟨16, .data⟩ (by simp) rfl 48 rfl).1
            have e19 : ρ (.tmp 51) = undef := (hdep ⟨19, .data⟩ (by simp) rfl 51 rfl).1
            have ocn : ∀ v, ρ (.const v) = v := fun v => hout (.const v) rfl
            have ofn : ∀ f, ρ (.func f) = .func (.func f) #[] #[] := fun f => hout (.func f) rfl
            clear hdep hout
            refine .inl ⟨?_, ?_⟩
            · rfl
            show GivesP _ _ _ (fun v _ => v = .bool true) _
            refine GivesP.val (.bool true) rfl ?_
            go_simp
          cases ho
        case fin =>
          intro V x hBx hV
          have ev : V 20 = .bool true := hV 20 (by simp)
          clear hV
          go_wp2_with fail
          go_meet
          exact ⟨ev, HB.out.trans (hBx.mono HB.out.size), P1.out.later hBx, P2.out.later hBx, P3.out.later hBx, P5.out.later hBx⟩
      case rest =>
      rename World => z3
      clear HB P1 P2 P3 P5
      obtain ⟨rfl, HB, P1, P2, P3, P5⟩ := hcut
      go_wp2_with fail
      go_cut [4] (fun s y => s = .bool true ∧ Hid (Below w.heap.size w y) ∧ Hid (Pr y w.heap.size x1.heap.size x1.heap.size a1 p1 n1 cap1 c1 l1 u1 L1) ∧ Hid (Pr y w.heap.size x1.heap.size (x1.heap.size + 1) a2 p2 n2 cap2 c2 l2 u2 L2) ∧ Hid (Pr y y1.heap.size x3.heap.size x3.heap.size a3 p3 n3 cap3 c3 l3 u3 L3) ∧ Hid (Pr y y3.heap.size x5.heap.size x5.heap.size ra p5 n5 cap5 rc rl ru rL))
      case first =>
        have hBd : Below z3.heap.size z3 z3.drew := (Below.refl _ _).drew
        refine wp_region_preds (by kernel_rfl) (by kernel_rfl) (by kernel_rfl) (by kernel_rfl) (fun j => [(fun v _ => v = .agg #[.bool ra, .slice p5 n5 cap5, .bool rc, .int .i64 rl, .int .i64 ru]), (fun v _ => v = .agg #[.bool a1, .slice p1 n1 cap1, .bool c1, .int .i64 l1, .int .i64 u1]), (fun v _ => v = .agg #[.bool a2, .slice p2 n2 cap2, .bool c2, .int .i64 l2, .int .i64 u2]), (fun v x => StV (ra, rL, rc, rl, ru) v x), (fun v _ => v = .bool true), (fun v _ => v = .bool true)].getD j (fun _ _ => True)) ?stable z3 hBd ?step (fun V => ⟨List.toArray ((Value.slice a len cap) :: (Value.slice b lenb capb) :: (undef) :: (undef) :: (V 5) :: (Value.pointer (some { block := x1.heap.size, off := 0 })) :: (Value.pointer (some { block := x1.heap.size + 1, off := 0 })) :: (Value.pointer (some { block := x3.heap.size, off := 0 })) :: (u8) :: (Value.pointer (some { block := x5.heap.size, off := 0 })) :: (undef) :: (u11) :: (u12) :: (u13) :: (u14) :: (u15) :: (u16) :: (u17) :: (u18) :: (u19) :: (u20) :: (u21) :: (u22) :: (u23) :: (u24) :: (u25) :: (u26) :: (u27) :: (u28) :: (u29) :: (u30) :: (u31) :: (u32) :: (u33) :: (u34) :: (u35) :: (u36) :: (u37) :: (u38) :: (u39) :: (u40) :: (u41) :: (u42) :: (u43) :: (u44) :: (u45) :: (u46) :: (u47) :: (u48) :: (u49) :: (u50) :: (u51) :: (Value.bool true) :: (V 0) :: (V 1) :: (V 2) :: (V 3) :: (V 4) :: (u58) :: (u59) :: (u60) :: (u61) :: (u62) :: (u63) :: (u64) :: (u65) :: (u66) :: (u67) :: (u68) :: (u69) :: (u70) :: (u71) :: (u72) :: (u73) :: (u74) :: (u75) :: (u76) :: (u77) :: (u78) :: (u79) :: (u80) :: (u81) :: (u82) :: (u83) :: (u84) :: (u85) :: (u86) :: (u87) :: (u88) :: (u89) :: (u90) :: (u91) :: (u92) :: (u93) :: (u94) :: (u95) :: (u96) :: (u97) :: (u98) :: (u99) :: (u100) :: (u101) :: (u102) :: (u103) :: (u104) :: (u105) :: (u106) :: (u107) :: (u108) :: (u109) :: (u110) :: (u111) :: (u112) :: (u113) :: (u114) :: []), []⟩) (fun V => by kernel_rfl) ?fin
        case stable =>
          intro i v x y ht hb
          rcases i with _ | i
          · exact ht
          rcases i with _ | i
          · exact ht
          rcases i with _ | i
          · exact ht
          rcases i with _ | i
          · exact StV.later ht hb
          rcases i with _ | i
          · exact ht
          rcases i with _ | i
          · exact ht
          exact trivial
        case step =>
          intro i o ho ρ y x hBx hdep hout
          rcases i with _ | i
          · obtain rfl := Option.some.inj ho
            have o9 : ρ (.tmp 9) = Value.pointer (some { block := x5.heap.size, off := 0 }) := hout (.tmp 9) rfl
            have ocn : ∀ v, ρ (.const v) = v := fun v => hout (.const v) rfl
            have ofn : ∀ f, ρ (.func f) = .func (.func f) #[] #[] := fun f => hout (.func f) rfl
            clear hdep hout
            refine .inl ⟨?_, ?_⟩
            · rfl
            obtain ⟨_, cc0, cc1, cc2, cc3, cc4, _⟩ := (P5.out.later hBx).box
            show GivesP _ _ _ (fun v _ => v = .agg #[.bool ra, .slice p5 n5 cap5, .bool rc, .int .i64 rl, .int .i64 ru]) _
            refine GivesP.val (.agg #[.bool ra, .slice p5 n5 cap5, .bool rc, .int .i64 rl, .int .i64 ru]) rfl ?_
            go_simp
          rcases i with _ | i
          · obtain rfl := Option.some.inj ho
            have o5 : ρ (.tmp 5) = Value.pointer (some { block := x1.heap.size, off := 0 }) := hout (.tmp 5) rfl
            have ocn : ∀ v, ρ (.const v) = v := fun v => hout (.const v) rfl
            have ofn : ∀ f, ρ (.func f) = .func (.func f) #[] #[] := fun f => hout (.func f) rfl
            clear hdep hout
            refine .inl ⟨?_, ?_⟩
            · rfl
            obtain ⟨_, cc0, cc1, cc2, cc3, cc4, _⟩ := (P1.out.later hBx).box
            show GivesP _ _ _ (fun v _ => v = .agg #[.bool a1, .slice p1 n1 cap1, .bool c1, .int .i64 l1, .int .i64 u1]) _
            refine GivesP.val (.agg #[.bool a1, .slice p1 n1 cap1, .bool c1, .int .i64 l1, .int .i64 u1]) rfl ?_
            go_simp
          rcases i with _ | i
          · obtain rfl := Option.some.inj ho
            have o6 : ρ (.tmp 6) = Value.pointer (some { block := x1.heap.size + 1, off := 0 }) := hout (.tmp 6) rfl
            have ocn : ∀ v, ρ (.const v) = v := fun v => hout (.const v) rfl
            have ofn : ∀ f, ρ (.func f) = .func (.func f) #[] #[] := fun f => hout (.func f) rfl
            clear hdep hout
            refine .inl ⟨?_, ?_⟩
            · rfl
            obtain ⟨_, cc0, cc1, cc2, cc3, cc4, _⟩ := (P2.out.later hBx).box
            show GivesP _ _ _ (fun v _ => v = .agg #[.bool a2, .slice p2 n2 cap2, .bool c2, .int .i64 l2, .int .i64 u2]) _
            refine GivesP.val (.agg #[.bool a2, .slice p2 n2 cap2, .bool c2, .int .i64 l2, .int .i64 u2]) rfl ?_
            go_simp
          rcases i with _ | i
          · obtain rfl := Option.some.inj ho
            have e1 : ρ (.tmp 54) = .agg #[.bool a1, .slice p1 n1 cap1, .bool c1, .int .i64 l1, .int .i64 u1] := (hdep ⟨1, .data⟩ (by simp) rfl 54 rfl).1
            have e2 : ρ (.tmp 55) = .agg #[.bool a2, .slice p2 n2 cap2, .bool c2, .int .i64 l2, .int .i64 u2] := (hdep ⟨2, .data⟩ (by simp) rfl 55 rfl).1
            have ocn : ∀ v, ρ (.const v) = v := fun v => hout (.const v) rfl
            have ofn : ∀ f, ρ (.func f) = .func (.func f) #[] #[] := fun f => hout (.func f) rfl
            clear hdep hout
            refine .inl ⟨?_, ?_⟩
            · rfl
            show GivesP _ _ _ (fun v x => StV (ra, rL, rc, rl, ru) v x) _
            refine GivesP.call ((stJoin_spec x true true _ _ _ _ _ _ L1 _ _ _ _ _ L2 _ _ _ (P1.out.later hBx).row (P2.out.later hBx).row).mono fun e w9 h9 => stV_of h9 HR.out) ?_
            go_simp
          rcases i with _ | i
          · obtain rfl := Option.some.inj ho
            have e0 : ρ (.tmp 53) = .agg #[.bool ra, .slice p5 n5 cap5, .bool rc, .int .i64 rl, .int .i64 ru] := (hdep ⟨0, .data⟩ (by simp) rfl 53 rfl).1
            have t3 : StV (ra, rL, rc, rl, ru) (ρ (.tmp 56)) x := (hdep ⟨3, .data⟩ (by simp) rfl 56 rfl).1
            obtain ⟨q3, k3, B3, E3, e3, s3⟩ := t3
            have ocn : ∀ v, ρ (.const v) = v := fun v => hout (.const v) rfl
            have ofn : ∀ f, ρ (.func f) = .func (.func f) #[] #[] := fun f => hout (.func f) rfl
            clear hdep hout
            refine .inl ⟨?_, ?_⟩
            · rfl
            show GivesP _ _ _ (fun v _ => v = .bool true) _
            refine GivesP.call ((lgState_same x true true _ _ _ _ ra _ _ rL rc rl ru (P5.out.later hBx).row s3).mono fun e w9 h9 => ⟨_, h9.1, rfl, h9.2⟩) ?_
            go_simp
          rcases i with _ | i
          · obtain rfl := Option.some.inj ho
            have e4 : ρ (.tmp 57) = .bool true := (hdep ⟨4, .data⟩ (by simp) rfl 57 rfl).1
            have ocn : ∀ v, ρ (.const v) = v := fun v => hout (.const v) rfl
            have ofn : ∀ f, ρ (.func f) = .func (.func f) #[] #[] := fun f => hout (.func f) rfl
            clear hdep hout
            refine .inl ⟨?_, ?_⟩
            · rfl
            show GivesP _ _ _ (fun v _ => v = .bool true) _
            refine GivesP.val (.bool true) rfl ?_
            go_simp
          cases ho
        case fin =>
          intro V x hBx hV
          have ev : V 5 = .bool true := hV 5 (by simp)
          clear hV
          go_wp2_with fail
          go_meet
          exact ⟨ev, HB.out.trans (hBx.mono HB.out.size), P1.out.later hBx, P2.out.later hBx, P3.out.later hBx, P5.out.later hBx⟩
      case rest =>
      rename World => z4
      clear HB P1 P2 P3 P5
      obtain ⟨rfl, HB, P1, P2, P3, P5⟩ := hcut
      go_wp2_with fail
      go_ret
      exact ⟨rfl, HB.out⟩
    · skip
      have HBo : Hid (stOk a2 L2 (c2, l2, u2) = true) := hob
      clear hob
      cases hoc : stOk a3 L3 (c3, l3, u3)
      · skip
        have HCo : Hid (stOk a3 L3 (c3, l3, u3) = false) := hoc
        clear hoc
        go_cut [52] (fun s y => s = .bool true ∧ Hid (Below w.heap.size w y) ∧ Hid (Pr y w.heap.size x1.heap.size x1.heap.size a1 p1 n1 cap1 c1 l1 u1 L1) ∧ Hid (Pr y w.heap.size x1.heap.size (x1.heap.size + 1) a2 p2 n2 cap2 c2 l2 u2 L2) ∧ Hid (Pr y y1.heap.size x3.heap.size x3.heap.size a3 p3 n3 cap3 c3 l3 u3 L3) ∧ Hid (Pr y y3.heap.size x5.heap.size x5.heap.size ra p5 n5 cap5 rc rl ru rL))
        case first =>
          have hBd : Below y5.heap.size y5 y5.drew := (Below.refl _ _).drew
          refine wp_region_preds (by kernel_rfl) (by kernel_rfl) (by kernel_rfl) (by kernel_rfl) (fun j => [(fun v _ => v = .agg #[.bool ra, .slice p5 n5 cap5, .bool rc, .int .i64 rl, .int .i64 ru]), (fun v _ => v = .agg #[.bool a1, .slice p1 n1 cap1, .bool c1, .int .i64 l1, .int .i64 u1]), (fun v _ => v = .agg #[.bool a2, .slice p2 n2 cap2, .bool c2, .int .i64 l2, .int .i64 u2]), (fun v x => StV (ra, rL, rc, rl, ru) v x), (fun v _ => v = .bool true), (fun v _ => v = .bool false), (fun v _ => v = .bool false), (fun v _ => v = .agg #[.bool a1, .slice p1 n1 cap1, .bool c1, .int .i64 l1, .int .i64 u1]), (fun v _ => v = .bool true), (fun v _ => v = .bool false), (fun v _ => v = .bool false), (fun v _ => v = .bool false), (fun v _ => v = .agg #[.bool a2, .slice p2 n2 cap2, .bool c2, .int .i64 l2, .int .i64 u2]), (fun v _ => v = .bool true), (fun v _ => v = .bool false), (fun v _ => v = .bool false), (fun v _ => v = .bool false), (fun v _ => v = .agg #[.bool a3, .slice p3 n3 cap3, .bool c3, .int .i64 l3, .int .i64 u3]), (fun v _ => v = .bool false), (fun v _ => v = .bool true), (fun v _ => v = .bool true)].getD j (fun _ _ => True)) ?stable y5 hBd ?step (fun V => ⟨List.toArray ((Value.slice a len cap) :: (Value.slice b lenb capb) :: (undef) :: (undef) :: (Value.bool false) :: (Value.pointer (some { block := x1.heap.size, off := 0 })) :: (Value.pointer (some { block := x1.heap.size + 1, off := 0 })) :: (Value.pointer (some { block := x3.heap.size, off := 0 })) :: (Value.pointer (some { block := x3.heap.size + 1, off := 0 })) :: (Value.pointer (some { block := x5.heap.size, off := 0 })) :: (undef) :: (Value.slice a len cap) :: (Value.int IntKind.i64 ↑len) :: (Value.bool false) :: (Value.bool false) :: (Value.slice b lenb capb) :: (Value.int IntKind.i64 ↑lenb) :: (Value.bool false) :: (Value.bool false) :: (Value.tuple #[Value.agg #[Value.bool a1, Value.slice p1 n1 cap1, Value.bool c1, Value.int IntKind.i64 l1, Value.int IntKind.i64 u1], Value.agg #[Value.bool a2, Value.slice p2 n2 cap2, Value.bool c2, Value.int IntKind.i64 l2, Value.int IntKind.i64 u2]]) :: (Value.slice a len cap) :: (Value.tuple #[Value.agg #[Value.bool a1, Value.slice p1 n1 cap1, Value.bool c1, Value.int IntKind.i64 l1, Value.int IntKind.i64 u1], Value.agg #[Value.bool a2, Value.slice p2 n2 cap2, Value.bool c2, Value.int IntKind.i64 l2, Value.int IntKind.i64 u2]]) :: (Value.agg #[Value.bool a1, Value.slice p1 n1 cap1, Value.bool c1, Value.int IntKind.i64 l1, Value.int IntKind.i64 u1]) :: (Value.agg #[Value.bool a2, Value.slice p2 n2 cap2, Value.bool c2, Value.int IntKind.i64 l2, Value.int IntKind.i64 u2]) :: (Value.tuple #[Value.agg #[Value.bool a3, Value.slice p3 n3 cap3, Value.bool c3, Value.int IntKind.i64 l3, Value.int IntKind.i64 u3], Value.agg #[Value.bool a4, Value.slice p4 n4 cap4, Value.bool c4, Value.int IntKind.i64 l4, Value.int IntKind.i64 u4]]) :: (Value.slice b lenb capb) :: (Value.tuple #[Value.agg #[Value.bool a3, Value.slice p3 n3 cap3, Value.bool c3, Value.int IntKind.i64 l3, Value.int IntKind.i64 u3], Value.agg #[Value.bool a4, Value.slice p4 n4 cap4, Value.bool c4, Value.int IntKind.i64 l4, Value.int IntKind.i64 u4]]) :: (Value.agg #[Value.bool a3, Value.slice p3 n3 cap3, Value.bool c3, Value.int IntKind.i64 l3, Value.int IntKind.i64 u3]) :: (Value.agg #[Value.bool a4, Value.slice p4 n4 cap4, Value.bool c4, Value.int IntKind.i64 l4, Value.int IntKind.i64 u4]) :: (Value.agg #[Value.bool a1, Value.slice p1 n1 cap1, Value.bool c1, Value.int IntKind.i64 l1, Value.int IntKind.i64 u1]) :: (Value.agg #[Value.bool a2, Value.slice p2 n2 cap2, Value.bool c2, Value.int IntKind.i64 l2, Value.int IntKind.i64 u2]) :: (Value.agg #[Value.bool ra, Value.slice p5 n5 cap5, Value.bool rc, Value.int IntKind.i64 rl, Value.int IntKind.i64 ru]) :: (V 0) :: (V 1) :: (V 2) :: (V 3) :: (V 4) :: (V 5) :: (V 6) :: (V 7) :: (V 8) :: (V 9) :: (V 10) :: (V 11) :: (V 12) :: (V 13) :: (V 14) :: (V 15) :: (V 16) :: (V 17) :: (V 18) :: (V 19) :: (V 20) :: (undef) :: (undef) :: (undef) :: (undef) :: (undef) :: (undef) :: (undef) :: (undef) :: (undef) :: (undef) :: (undef) :: (undef) :: (undef) :: (undef) :: (undef) :: (undef) :: (undef) :: (undef) :: (undef) :: (undef) :: (undef) :: (undef) :: (undef) :: (undef) :: (undef) :: (undef) :: (undef) :: (undef) :: (undef) :: (undef) :: (undef) :: (undef) :: (undef) :: (undef) :: (undef) :: (undef) :: (undef) :: (undef) :: (undef) :: (undef) :: (undef) :: (undef) :: (undef) :: (undef) :: (undef) :: (undef) :: (undef) :: (undef) :: (undef) :: (undef) :: (undef) :: (undef) :: (undef) :: (undef) :: (undef) :: (undef) :: (undef) :: (undef) :: (undef) :: (undef) :: (undef) :: (undef) :: []), []⟩) (fun V => by kernel_rfl) ?fin
          case stable =>
            intro i v x y ht hb
            rcases i with _ | i
            · exact ht
            rcases i with _ | i
            · exact ht
            rcases i with _ | i
            · exact ht
            rcases i with _ | i
            · exact StV.later ht hb
            rcases i with _ | i
            · exact ht
            rcases i with _ | i
            · exact ht
            rcases i with _ | i
            · exact ht
            rcases i with _ | i
            · exact ht
            rcases i with _ | i
            · exact ht
            rcases i with _ | i
            · exact ht
            rcases i with _ | i
            · exact ht
            rcases i with _ | i
            · exact ht
            rcases i with _ | i
            · exact ht
            rcases i with _ | i
            · exact ht
            rcases i with _ | i
            · exact ht
            rcases i with _ | i
            · exact ht
            rcases i with _ | i
            · exact ht
            rcases i with _ | i
            · exact ht
            rcases i with _ | i
            · exact ht
            rcases i with _ | i
            · exact ht
            rcases i with _ | i
            · exact ht
            exact trivial
          case step =>
            intro i o ho ρ y x hBx hdep hout
            rcases i with _ | i
            · obtain rfl := Option.some.inj ho
              have o9 : ρ (.tmp 9) = Value.pointer (some { block := x5.heap.size, off := 0 }) := hout (.tmp 9) rfl
              have ocn : ∀ v, ρ (.const v) = v := fun v => hout (.const v) rfl
              have ofn : ∀ f, ρ (.func f) = .func (.func f) #[] #[] := fun f => hout (.func f) rfl
              clear hdep hout
              refine .inl ⟨?_, ?_⟩
              · rfl
              obtain ⟨_, cc0, cc1, cc2, cc3, cc4, _⟩ := (P5.out.later hBx).box
              show GivesP _ _ _ (fun v _ => v = .agg #[.bool ra, .slice p5 n5 cap5, .bool rc, .int .i64 rl, .int .i64 ru]) _
              refine GivesP.val (.agg #[.bool ra, .slice p5 n5 cap5, .bool rc, .int .i64 rl, .int .i64 ru]) rfl ?_
              go_simp
            rcases i with _ | i
            · obtain rfl := Option.some.inj ho
              have o5 : ρ (.tmp 5) = Value.pointer (some { block := x1.heap.size, off := 0 }) := hout (.tmp 5) rfl
              have ocn : ∀ v, ρ (.const v) = v := fun v => hout (.const v) rfl
              have ofn : ∀ f, ρ (.func f) = .func (.func f) #[] #[] := fun f => hout (.func f) rfl
              clear hdep hout
              refine .inl ⟨?_, ?_⟩
              · rfl
              obtain ⟨_, cc0, cc1, cc2, cc3, cc4, _⟩ := (P1.out.later hBx).box
              show GivesP _ _ _ (fun v _ => v = .agg #[.bool a1, .slice p1 n1 cap1, .bool c1, .int .i64 l1, .int .i64 u1]) _
              refine GivesP.val (.agg #[.bool a1, .slice p1 n1 cap1, .bool c1, .int .i64 l1, .int .i64 u1]) rfl ?_
              go_simp
            rcases i with _ | i
            · obtain rfl := Option.some.inj ho
              have o6 : ρ (.tmp 6) = Value.pointer (some { block := x1.heap.size + 1, off := 0 }) := hout (.tmp 6) rfl
              have ocn : ∀ v, ρ (.const v) = v := fun v => hout (.const v) rfl
              have ofn : ∀ f, ρ (.func f) = .func (.func f) #[] #[] := fun f => hout (.func f) rfl
              clear hdep hout
              refine .inl ⟨?_, ?_⟩
              · rfl
              obtain ⟨_, cc0, cc1, cc2, cc3, cc4, _⟩ := (P2.out.later hBx).box
              show GivesP _ _ _ (fun v _ => v = .agg #[.bool a2, .slice p2 n2 cap2, .bool c2, .int .i64 l2, .int .i64 u2]) _
              refine GivesP.val (.agg #[.bool a2, .slice p2 n2 cap2, .bool c2, .int .i64 l2, .int .i64 u2]) rfl ?_
              go_simp
            rcases i with _ | i
            · obtain rfl := Option.some.inj ho
              have e1 : ρ (.tmp 33) = .agg #[.bool a1, .slice p1 n1 cap1, .bool c1, .int .i64 l1, .int .i64 u1] := (hdep ⟨1, .data⟩ (by simp) rfl 33 rfl).1
              have e2 : ρ (.tmp 34) = .agg #[.bool a2, .slice p2 n2 cap2, .bool c2, .int .i64 l2, .int .i64 u2] := (hdep ⟨2, .data⟩ (by simp) rfl 34 rfl).1
              have ocn : ∀ v, ρ (.const v) = v := fun v => hout (.const v) rfl
              have ofn : ∀ f, ρ (.func f) = .func (.func f) #[] #[] := fun f => hout (.func f) rfl
              clear hdep hout
              refine .inl ⟨?_, ?_⟩
              · rfl
              show GivesP _ _ _ (fun v x => StV (ra, rL, rc, rl, ru) v x) _
              refine GivesP.call ((stJoin_spec x true true _ _ _ _ _ _ L1 _ _ _ _ _ L2 _ _ _ (P1.out.later hBx).row (P2.out.later hBx).row).mono fun e w9 h9 => stV_of h9 HR.out) ?_
              go_simp
            rcases i with _ | i
            · obtain rfl := Option.some.inj ho
              have e0 : ρ (.tmp 32) = .agg #[.bool ra, .slice p5 n5 cap5, .bool rc, .int .i64 rl, .int .i64 ru] := (hdep ⟨0, .data⟩ (by simp) rfl 32 rfl).1
              have t3 : StV (ra, rL, rc, rl, ru) (ρ (.tmp 35)) x := (hdep ⟨3, .data⟩ (by simp) rfl 35 rfl).1
              obtain ⟨q3, k3, B3, E3, e3, s3⟩ := t3
              have ocn : ∀ v, ρ (.const v) = v := fun v => hout (.const v) rfl
              have ofn : ∀ f, ρ (.func f) = .func (.func f) #[] #[] := fun f => hout (.func f) rfl
              clear hdep hout
              refine .inl ⟨?_, ?_⟩
              · rfl
              show GivesP _ _ _ (fun v _ => v = .bool true) _
              refine GivesP.call ((lgState_same x true true _ _ _ _ ra _ _ rL rc rl ru (P5.out.later hBx).row s3).mono fun e w9 h9 => ⟨_, h9.1, rfl, h9.2⟩) ?_
              go_simp
            rcases i with _ | i
            · obtain rfl := Option.some.inj ho
              have e4 : ρ (.tmp 36) = .bool true := (hdep ⟨4, .data⟩ (by simp) rfl 36 rfl).1
              have ocn : ∀ v, ρ (.const v) = v := fun v => hout (.const v) rfl
              have ofn : ∀ f, ρ (.func f) = .func (.func f) #[] #[] := fun f => hout (.func f) rfl
              clear hdep hout
              refine .inl ⟨?_, ?_⟩
              · rfl
              show GivesP _ _ _ (fun v _ => v = .bool false) _
              refine GivesP.val (.bool false) rfl ?_
              go_simp
            rcases i with _ | i
            · obtain rfl := Option.some.inj ho
              have e5 : ρ (.tmp 37) = .bool false := (hdep ⟨5, .data⟩ (by simp) rfl 37 rfl).1
              have ocn : ∀ v, ρ (.const v) = v := fun v => hout (.const v) rfl
              have ofn : ∀ f, ρ (.func f) = .func (.func f) #[] #[] := fun f => hout (.func f) rfl
              clear hdep hout
              refine .inl ⟨?_, ?_⟩
              · rfl
              show GivesP _ _ _ (fun v _ => v = .bool false) _
              refine GivesP.val (.bool false) rfl ?_
              go_simp
            rcases i with _ | i
            · obtain rfl := Option.some.inj ho
              have o5 : ρ (.tmp 5) = Value.pointer (some { block := x1.heap.size, off := 0 }) := hout (.tmp 5) rfl
              have eg : ρ (.tmp 38) = .bool false := (hdep ⟨6, .guard⟩ (by simp) rfl 38 rfl).1
              have yg : y 6 = some false := (hdep ⟨6, .guard⟩ (by simp) rfl 38 rfl).2.trans (by rw [eg]; rfl)
              have ocn : ∀ v, ρ (.const v) = v := fun v => hout (.const v) rfl
              have ofn : ∀ f, ρ (.func f) = .func (.func f) #[] #[] := fun f => hout (.func f) rfl
              clear hdep hout
              refine .inl ⟨?_, ?_⟩
              · show (y 6 == some false) = true
                rw [yg]; rfl
              obtain ⟨_, cc0, cc1, cc2, cc3, cc4, _⟩ := (P1.out.later hBx).box
              show GivesP _ _ _ (fun v _ => v = .agg #[.bool a1, .slice p1 n1 cap1, .bool c1, .int .i64 l1, .int .i64 u1]) _
              refine GivesP.val (.agg #[.bool a1, .slice p1 n1 cap1, .bool c1, .int .i64 l1, .int .i64 u1]) rfl ?_
              go_simp
            rcases i with _ | i
            · obtain rfl := Option.some.inj ho
              have e7 : ρ (.tmp 39) = .agg #[.bool a1, .slice p1 n1 cap1, .bool c1, .int .i64 l1, .int .i64 u1] := (hdep ⟨7, .data⟩ (by simp) rfl 39 rfl).1
              have eg : ρ (.tmp 38) = .bool false := (hdep ⟨6, .guard⟩ (by simp) rfl 38 rfl).1
              have yg : y 6 = some false := (hdep ⟨6, .guard⟩ (by simp) rfl 38 rfl).2.trans (by rw [eg]; rfl)
              have ocn : ∀ v, ρ (.const v) = v := fun v => hout (.const v) rfl
              have ofn : ∀ f, ρ (.func f) = .func (.func f) #[] #[] := fun f => hout (.func f) rfl
              clear hdep hout
              refine .inl ⟨?_, ?_⟩
              · show (y 6 == some false) = true
                rw [yg]; rfl
              show GivesP _ _ _ (fun v _ => v = .bool true) _
              refine GivesP.call ((stOk_spec x true _ _ _ _ L1 _ _ _ (P1.out.later hBx).row).mono fun e w9 h9 => ⟨_, h9.1, by rw [HAo.out], h9.2⟩) ?_
              go_simp
            rcases i with _ | i
            · obtain rfl := Option.some.inj ho
              have e8 : ρ (.tmp 40) = .bool true := (hdep ⟨8, .data⟩ (by simp) rfl 40 rfl).1
              have eg : ρ (.tmp 38) = .bool false := (hdep ⟨6, .guard⟩ (by simp) rfl 38 rfl).1
              have yg : y 6 = some false := (hdep ⟨6, .guard⟩ (by simp) rfl 38 rfl).2.trans (by rw [eg]; rfl)
              have ocn : ∀ v, ρ (.const v) = v := fun v => hout (.const v) rfl
              have ofn : ∀ f, ρ (.func f) = .func (.func f) #[] #[] := fun f => hout (.func f) rfl
              clear hdep hout
              refine .inl ⟨?_, ?_⟩
              · show (y 6 == some false) = true
                rw [yg]; rfl
              show GivesP _ _ _ (fun v _ => v = .bool false) _
              refine GivesP.val (.bool false) rfl ?_
              go_simp
            rcases i with _ | i
            · obtain rfl := Option.some.inj ho
              have e6 : ρ (.tmp 38) = .bool false := (hdep ⟨6, .data⟩ (by simp) rfl 38 rfl).1
              have e9 : ρ (.tmp 41) = .bool false := (hdep ⟨9, .data⟩ (by simp) rfl 41 rfl).1
              have ocn : ∀ v, ρ (.const v) = v := fun v => hout (.const v) rfl
              have ofn : ∀ f, ρ (.func f) = .func (.func f) #[] #[] := fun f => hout (.func f) rfl
              clear hdep hout
              refine .inl ⟨?_, ?_⟩
              · rfl
              show GivesP _ _ _ (fun v _ => v = .bool false) _
              refine GivesP.val (.bool false) rfl ?_
              go_simp
            rcases i with _ | i
            · obtain rfl := Option.some.inj ho
              have e10 : ρ (.tmp 42) = .bool false := (hdep ⟨10, .data⟩ (by simp) rfl 42 rfl).1
              have ocn : ∀ v, ρ (.const v) = v := fun v => hout (.const v) rfl
              have ofn : ∀ f, ρ (.func f) = .func (.func f) #[] #[] := fun f => hout (.func f) rfl
              clear hdep hout
              refine .inl ⟨?_, ?_⟩
              · rfl
              show GivesP _ _ _ (fun v _ => v = .bool false) _
              refine GivesP.val (.bool false) rfl ?_
              go_simp
            rcases i with _ | i
            · obtain rfl := Option.some.inj ho
              have o6 : ρ (.tmp 6) = Value.pointer (some { block := x1.heap.size + 1, off := 0 }) := hout (.tmp 6) rfl
              have eg : ρ (.tmp 43) = .bool false := (hdep ⟨11, .guard⟩ (by simp) rfl 43 rfl).1
              have yg : y 11 = some false := (hdep ⟨11, .guard⟩ (by simp) rfl 43 rfl).2.trans (by rw [eg]; rfl)
              have ocn : ∀ v, ρ (.const v) = v := fun v => hout (.const v) rfl
              have ofn : ∀ f, ρ (.func f) = .func (.func f) #[] #[] := fun f => hout (.func f) rfl
              clear hdep hout
              refine .inl ⟨?_, ?_⟩
              · show (y 11 == some false) = true
                rw [yg]; rfl
              obtain ⟨_, cc0, cc1, cc2, cc3, cc4, _⟩ := (P2.out.later hBx).box
              show GivesP _ _ _ (fun v _ => v = .agg #[.bool a2, .slice p2 n2 cap2, .bool c2, .int .i64 l2, .int .i64 u2]) _
              refine GivesP.val (.agg #[.bool a2, .slice p2 n2 cap2, .bool c2, .int .i64 l2, .int .i64 u2]) rfl ?_
              go_simp
            rcases i with _ | i
            · obtain rfl := Option.some.inj ho
              have e12 : ρ (.tmp 44) = .agg #[.bool a2, .slice p2 n2 cap2, .bool c2, .int .i64 l2, .int .i64 u2] := (hdep ⟨12, .data⟩ (by simp) rfl 44 rfl).1
              have eg : ρ (.tmp 43) = .bool false := (hdep ⟨11, .guard⟩ (by simp) rfl 43 rfl).1
              have yg : y 11 = some false := (hdep ⟨11, .guard⟩ (by simp) rfl 43 rfl).2.trans (by rw [eg]; rfl)
              have ocn : ∀ v, ρ (.const v) = v := fun v => hout (.const v) rfl
              have ofn : ∀ f, ρ (.func f) = .func (.func f) #[] #[] := fun f => hout (.func f) rfl
              clear hdep hout
              refine .inl ⟨?_, ?_⟩
              · show (y 11 == some false) = true
                rw [yg]; rfl
              show GivesP _ _ _ (fun v _ => v = .bool true) _
              refine GivesP.call ((stOk_spec x true _ _ _ _ L2 _ _ _ (P2.out.later hBx).row).mono fun e w9 h9 => ⟨_, h9.1, by rw [HBo.out], h9.2⟩) ?_
              go_simp
            rcases i with _ | i
            · obtain rfl := Option.some.inj ho
              have e13 : ρ (.tmp 45) = .bool true := (hdep ⟨13, .data⟩ (by simp) rfl 45 rfl).1
              have eg : ρ (.tmp 43) = .bool false := (hdep ⟨11, .guard⟩ (by simp) rfl 43 rfl).1
              have yg : y 11 = some false := (hdep ⟨11, .guard⟩ (by simp) rfl 43 rfl).2.trans (by rw [eg]; rfl)
              have ocn : ∀ v, ρ (.const v) = v := fun v => hout (.const v) rfl
              have ofn : ∀ f, ρ (.func f) = .func (.func f) #[] #[] := fun f => hout (.func f) rfl
              clear hdep hout
              refine .inl ⟨?_, ?_⟩
              · show (y 11 == some false) = true
                rw [yg]; rfl
              show GivesP _ _ _ (fun v _ => v = .bool false) _
              refine GivesP.val (.bool false) rfl ?_
              go_simp
            rcases i with _ | i
            · obtain rfl := Option.some.inj ho
              have e11 : ρ (.tmp 43) = .bool false := (hdep ⟨11, .data⟩ (by simp) rfl 43 rfl).1
              have e14 : ρ (.tmp 46) = .bool false := (hdep ⟨14, .data⟩ (by simp) rfl 46 rfl).1
              have ocn : ∀ v, ρ (.const v) = v := fun v => hout (.const v) rfl
              have ofn : ∀ f, ρ (.func f) = .func (.func f) #[] #[] := fun f => hout (.func f) rfl
              clear hdep hout
              refine .inl ⟨?_, ?_⟩
              · rfl
              show GivesP _ _ _ (fun v _ => v = .bool false) _
              refine GivesP.val (.bool false) rfl ?_
              go_simp
            rcases i with _ | i
            · obtain rfl := Option.some.inj ho
              have e15 : ρ (.tmp 47) = .bool false := (hdep ⟨15, .data⟩ (by simp) rfl 47 rfl).1
              have ocn : ∀ v, ρ (.const v) = v := fun v => hout (.const v) rfl
              have ofn : ∀ f, ρ (.func f) = .func (.func f) #[] #[] := fun f => hout (.func f) rfl
              clear hdep hout
              refine .inl ⟨?_, ?_⟩
              · rfl
              show GivesP _ _ _ (fun v _ => v = .bool false) _
              refine GivesP.val (.bool false) rfl ?_
              go_simp
            rcases i with _ | i
            · obtain rfl := Option.some.inj ho
              have o7 : ρ (.tmp 7) = Value.pointer (some { block := x3.heap.size, off := 0 }) := hout (.tmp 7) rfl
              have eg : ρ (.tmp 48) = .bool false := (hdep ⟨16, .guard⟩ (by simp) rfl 48 rfl).1
              have yg : y 16 = some false := (hdep ⟨16, .guard⟩ (by simp) rfl 48 rfl).2.trans (by rw [eg]; rfl)
              have ocn : ∀ v, ρ (.const v) = v := fun v => hout (.const v) rfl
              have ofn : ∀ f, ρ (.func f) = .func (.func f) #[] #[] := fun f => hout (.func f) rfl
              clear hdep hout
              refine .inl ⟨?_, ?_⟩
              · show (y 16 == some false) = true
                rw [yg]; rfl
              obtain ⟨_, cc0, cc1, cc2, cc3, cc4, _⟩ := (P3.out.later hBx).box
              show GivesP _ _ _ (fun v _ => v = .agg #[.bool a3, .slice p3 n3 cap3, .bool c3, .int .i64 l3, .int .i64 u3]) _
              refine GivesP.val (.agg #[.bool a3, .slice p3 n3 cap3, .bool c3, .int .i64 l3, .int .i64 u3]) rfl ?_
              go_simp
            rcases i with _ | i
            · obtain rfl := Option.some.inj ho
              have e17 : ρ (.tmp 49) = .agg #[.bool a3, .slice p3 n3 cap3, .bool c3, .int .i64 l3, .int .i64 u3] := (hdep ⟨17, .data⟩ (by simp) rfl 49 rfl).1
              have eg : ρ (.tmp 48) = .bool false := (hdep ⟨16, .guard⟩ (by simp) rfl 48 rfl).1
              have yg : y 16 = some false := (hdep ⟨16, .guard⟩ (by simp) rfl 48 rfl).2.trans (by rw [eg]; rfl)
              have ocn : ∀ v, ρ (.const v) = v := fun v => hout (.const v) rfl
              have ofn : ∀ f, ρ (.func f) = .func (.func f) #[] #[] := fun f => hout (.func f) rfl
              clear hdep hout
              refine .inl ⟨?_, ?_⟩
              · show (y 16 == some false) = true
                rw [yg]; rfl
              show GivesP _ _ _ (fun v _ => v = .bool false) _
              refine GivesP.call ((stOk_spec x true _ _ _ _ L3 _ _ _ (P3.out.later hBx).row).mono fun e w9 h9 => ⟨_, h9.1, by rw [HCo.out], h9.2⟩) ?_
              go_simp
            rcases i with _ | i
            · obtain rfl := Option.some.inj ho
              have e18 : ρ (.tmp 50) = .bool false := (hdep ⟨18, .data⟩ (by simp) rfl 50 rfl).1
              have eg : ρ (.tmp 48) = .bool false := (hdep ⟨16, .guard⟩ (by simp) rfl 48 rfl).1
              have yg : y 16 = some false := (hdep ⟨16, .guard⟩ (by simp) rfl 48 rfl).2.trans (by rw [eg]; rfl)
              have ocn : ∀ v, ρ (.const v) = v := fun v => hout (.const v) rfl
              have ofn : ∀ f, ρ (.func f) = .func (.func f) #[] #[] := fun f => hout (.func f) rfl
              clear hdep hout
              refine .inl ⟨?_, ?_⟩
              · show (y 16 == some false) = true
                rw [yg]; rfl
              show GivesP _ _ _ (fun v _ => v = .bool true) _
              refine GivesP.val (.bool true) rfl ?_
              go_simp
            rcases i with _ | i
            · obtain rfl := Option.some.inj ho
              have e16 : ρ (.tmp 48) = .bool false := (hdep ⟨16, .data⟩ (by simp) rfl 48 rfl).1
              have e19 : ρ (.tmp 51) = .bool true := (hdep ⟨19, .data⟩ (by simp) rfl 51 rfl).1
              have ocn : ∀ v, ρ (.const v) = v := fun v => hout (.const v) rfl
              have ofn : ∀ f, ρ (.func f) = .func (.func f) #[] #[] := fun f => hout (.func f) rfl
              clear hdep hout
              refine .inl ⟨?_, ?_⟩
              · rfl
              show GivesP _ _ _ (fun v _ => v = .bool true) _
              refine GivesP.val (.bool true) rfl ?_
              go_simp
            cases ho
          case fin =>
            intro V x hBx hV
            have ev : V 20 = .bool true := hV 20 (by simp)
            clear hV
            go_wp2_with fail
            go_meet
            exact ⟨ev, HB.out.trans (hBx.mono HB.out.size), P1.out.later hBx, P2.out.later hBx, P3.out.later hBx, P5.out.later hBx⟩
        case rest =>
        rename World => z5
        clear HB P1 P2 P3 P5
        obtain ⟨rfl, HB, P1, P2, P3, P5⟩ := hcut
        go_wp2_with fail
        go_cut [4] (fun s y => s = .bool true ∧ Hid (Below w.heap.size w y) ∧ Hid (Pr y w.heap.size x1.heap.size x1.heap.size a1 p1 n1 cap1 c1 l1 u1 L1) ∧ Hid (Pr y w.heap.size x1.heap.size (x1.heap.size + 1) a2 p2 n2 cap2 c2 l2 u2 L2) ∧ Hid (Pr y y1.heap.size x3.heap.size x3.heap.size a3 p3 n3 cap3 c3 l3 u3 L3) ∧ Hid (Pr y y3.heap.size x5.heap.size x5.heap.size ra p5 n5 cap5 rc rl ru rL))
        case first =>
          have hBd : Below z5.heap.size z5 z5.drew := (Below.refl _ _).drew
          refine wp_region_preds (by kernel_rfl) (by kernel_rfl) (by kernel_rfl) (by kernel_rfl) (fun j => [(fun v _ => v = .agg #[.bool ra, .slice p5 n5 cap5, .bool rc, .int .i64 rl, .int .i64 ru]), (fun v _ => v = .agg #[.bool a1, .slice p1 n1 cap1, .bool c1, .int .i64 l1, .int .i64 u1]), (fun v _ => v = .agg #[.bool a2, .slice p2 n2 cap2, .bool c2, .int .i64 l2, .int .i64 u2]), (fun v x => StV (ra, rL, rc, rl, ru) v x), (fun v _ => v = .bool true), (fun v _ => v = .bool true)].getD j (fun _ _ => True)) ?stable z5 hBd ?step (fun V => ⟨List.toArray ((Value.slice a len cap) :: (Value.slice b lenb capb) :: (undef) :: (undef) :: (V 5) :: (Value.pointer (some { block := x1.heap.size, off := 0 })) :: (Value.pointer (some { block := x1.heap.size + 1, off := 0 })) :: (Value.pointer (some { block := x3.heap.size, off := 0 })) :: (u8) :: (Value.pointer (some { block := x5.heap.size, off := 0 })) :: (undef) :: (u11) :: (u12) :: (u13) :: (u14) :: (u15) :: (u16) :: (u17) :: (u18) :: (u19) :: (u20) :: (u21) :: (u22) :: (u23) :: (u24) :: (u25) :: (u26) :: (u27) :: (u28) :: (u29) :: (u30) :: (u31) :: (u32) :: (u33) :: (u34) :: (u35) :: (u36) :: (u37) :: (u38) :: (u39) :: (u40) :: (u41) :: (u42) :: (u43) :: (u44) :: (u45) :: (u46) :: (u47) :: (u48) :: (u49) :: (u50) :: (u51) :: (Value.bool true) :: (V 0) :: (V 1) :: (V 2) :: (V 3) :: (V 4) :: (u58) :: (u59) :: (u60) :: (u61) :: (u62) :: (u63) :: (u64) :: (u65) :: (u66) :: (u67) :: (u68) :: (u69) :: (u70) :: (u71) :: (u72) :: (u73) :: (u74) :: (u75) :: (u76) :: (u77) :: (u78) :: (u79) :: (u80) :: (u81) :: (u82) :: (u83) :: (u84) :: (u85) :: (u86) :: (u87) :: (u88) :: (u89) :: (u90) :: (u91) :: (u92) :: (u93) :: (u94) :: (u95) :: (u96) :: (u97) :: (u98) :: (u99) :: (u100) :: (u101) :: (u102) :: (u103) :: (u104) :: (u105) :: (u106) :: (u107) :: (u108) :: (u109) :: (u110) :: (u111) :: (u112) :: (u113) :: (u114) :: []), []⟩) (fun V => by kernel_rfl) ?fin
          case stable =>
            intro i v x y ht hb
            rcases i with _ | i
            · exact ht
            rcases i with _ | i
            · exact ht
            rcases i with _ | i
            · exact ht
            rcases i with _ | i
            · exact StV.later ht hb
            rcases i with _ | i
            · exact ht
            rcases i with _ | i
            · exact ht
            exact trivial
          case step =>
            intro i o ho ρ y x hBx hdep hout
            rcases i with _ | i
            · obtain rfl := Option.some.inj ho
              have o9 : ρ (.tmp 9) = Value.pointer (some { block := x5.heap.size, off := 0 }) := hout (.tmp 9) rfl
              have ocn : ∀ v, ρ (.const v) = v := fun v => hout (.const v) rfl
              have ofn : ∀ f, ρ (.func f) = .func (.func f) #[] #[] := fun f => hout (.func f) rfl
              clear hdep hout
              refine .inl ⟨?_, ?_⟩
              · rfl
              obtain ⟨_, cc0, cc1, cc2, cc3, cc4, _⟩ := (P5.out.later hBx).box
              show GivesP _ _ _ (fun v _ => v = .agg #[.bool ra, .slice p5 n5 cap5, .bool rc, .int .i64 rl, .int .i64 ru]) _
              refine GivesP.val (.agg #[.bool ra, .slice p5 n5 cap5, .bool rc, .int .i64 rl, .int .i64 ru]) rfl ?_
              go_simp
            rcases i with _ | i
            · obtain rfl := Option.some.inj ho
              have o5 : ρ (.tmp 5) = Value.pointer (some { block := x1.heap.size, off := 0 }) := hout (.tmp 5) rfl
              have ocn : ∀ v, ρ (.const v) = v := fun v => hout (.const v) rfl
              have ofn : ∀ f, ρ (.func f) = .func (.func f) #[] #[] := fun f => hout (.func f) rfl
              clear hdep hout
              refine .inl ⟨?_, ?_⟩
              · rfl
              obtain ⟨_, cc0, cc1, cc2, cc3, cc4, _⟩ := (P1.out.later hBx).box
              show GivesP _ _ _ (fun v _ => v = .agg #[.bool a1, .slice p1 n1 cap1, .bool c1, .int .i64 l1, .int .i64 u1]) _
              refine GivesP.val (.agg #[.bool a1, .slice p1 n1 cap1, .bool c1, .int .i64 l1, .int .i64 u1]) rfl ?_
              go_simp
            rcases i with _ | i
            · obtain rfl := Option.some.inj ho
              have o6 : ρ (.tmp 6) = Value.pointer (some { block := x1.heap.size + 1, off := 0 }) := hout (.tmp 6) rfl
              have ocn : ∀ v, ρ (.const v) = v := fun v => hout (.const v) rfl
              have ofn : ∀ f, ρ (.func f) = .func (.func f) #[] #[] := fun f => hout (.func f) rfl
              clear hdep hout
              refine .inl ⟨?_, ?_⟩
              · rfl
              obtain ⟨_, cc0, cc1, cc2, cc3, cc4, _⟩ := (P2.out.later hBx).box
              show GivesP _ _ _ (fun v _ => v = .agg #[.bool a2, .slice p2 n2 cap2, .bool c2, .int .i64 l2, .int .i64 u2]) _
              refine GivesP.val (.agg #[.bool a2, .slice p2 n2 cap2, .bool c2, .int .i64 l2, .int .i64 u2]) rfl ?_
              go_simp
            rcases i with _ | i
            · obtain rfl := Option.some.inj ho
              have e1 : ρ (.tmp 54) = .agg #[.bool a1, .slice p1 n1 cap1, .bool c1, .int .i64 l1, .int .i64 u1] := (hdep ⟨1, .data⟩ (by simp) rfl 54 rfl).1
              have e2 : ρ (.tmp 55) = .agg #[.bool a2, .slice p2 n2 cap2, .bool c2, .int .i64 l2, .int .i64 u2] := (hdep ⟨2, .data⟩ (by simp) rfl 55 rfl).1
              have ocn : ∀ v, ρ (.const v) = v := fun v => hout (.const v) rfl
              have ofn : ∀ f, ρ (.func f) = .func (.func f) #[] #[] := fun f => hout (.func f) rfl
              clear hdep hout
              refine .inl ⟨?_, ?_⟩
              · rfl
              show GivesP _ _ _ (fun v x => StV (ra, rL, rc, rl, ru) v x) _
              refine GivesP.call ((stJoin_spec x true true _ _ _ _ _ _ L1 _ _ _ _ _ L2 _ _ _ (P1.out.later hBx).row (P2.out.later hBx).row).mono fun e w9 h9 => stV_of h9 HR.out) ?_
              go_simp
            rcases i with _ | i
            · obtain rfl := Option.some.inj ho
              have e0 : ρ (.tmp 53) = .agg #[.bool ra, .slice p5 n5 cap5, .bool rc, .int .i64 rl, .int .i64 ru] := (hdep ⟨0, .data⟩ (by simp) rfl 53 rfl).1
              have t3 : StV (ra, rL, rc, rl, ru) (ρ (.tmp 56)) x := (hdep ⟨3, .data⟩ (by simp) rfl 56 rfl).1
              obtain ⟨q3, k3, B3, E3, e3, s3⟩ := t3
              have ocn : ∀ v, ρ (.const v) = v := fun v => hout (.const v) rfl
              have ofn : ∀ f, ρ (.func f) = .func (.func f) #[] #[] := fun f => hout (.func f) rfl
              clear hdep hout
              refine .inl ⟨?_, ?_⟩
              · rfl
              show GivesP _ _ _ (fun v _ => v = .bool true) _
              refine GivesP.call ((lgState_same x true true _ _ _ _ ra _ _ rL rc rl ru (P5.out.later hBx).row s3).mono fun e w9 h9 => ⟨_, h9.1, rfl, h9.2⟩) ?_
              go_simp
            rcases i with _ | i
            · obtain rfl := Option.some.inj ho
              have e4 : ρ (.tmp 57) = .bool true := (hdep ⟨4, .data⟩ (by simp) rfl 57 rfl).1
              have ocn : ∀ v, ρ (.const v) = v := fun v => hout (.const v) rfl
              have ofn : ∀ f, ρ (.func f) = .func (.func f) #[] #[] := fun f => hout (.func f) rfl
              clear hdep hout
              refine .inl ⟨?_, ?_⟩
              · rfl
              show GivesP _ _ _ (fun v _ => v = .bool true) _
              refine GivesP.val (.bool true) rfl ?_
              go_simp
            cases ho
          case fin =>
            intro V x hBx hV
            have ev : V 5 = .bool true := hV 5 (by simp)
            clear hV
            go_wp2_with fail
            go_meet
            exact ⟨ev, HB.out.trans (hBx.mono HB.out.size), P1.out.later hBx, P2.out.later hBx, P3.out.later hBx, P5.out.later hBx⟩
        case rest =>
        rename World => z6
        clear HB P1 P2 P3 P5
        obtain ⟨rfl, HB, P1, P2, P3, P5⟩ := hcut
        go_wp2_with fail
        go_ret
        exact ⟨rfl, HB.out⟩
      · skip
        have HCo : Hid (stOk a3 L3 (c3, l3, u3) = true) := hoc
        clear hoc
        go_cut [52] (fun s y => s = .bool false ∧ Hid (Below w.heap.size w y) ∧ Hid (Pr y w.heap.size x1.heap.size x1.heap.size a1 p1 n1 cap1 c1 l1 u1 L1) ∧ Hid (Pr y w.heap.size x1.heap.size (x1.heap.size + 1) a2 p2 n2 cap2 c2 l2 u2 L2) ∧ Hid (Pr y y1.heap.size x3.heap.size x3.heap.size a3 p3 n3 cap3 c3 l3 u3 L3) ∧ Hid (Pr y y3.heap.size x5.heap.size x5.heap.size ra p5 n5 cap5 rc rl ru rL))
        case first =>
          have hBd : Below y5.heap.size y5 y5.drew := (Below.refl _ _).drew
          refine wp_region_preds (by kernel_rfl) (by kernel_rfl) (by kernel_rfl) (by kernel_rfl) (fun j => [(fun v _ => v = .agg #[.bool ra, .slice p5 n5 cap5, .bool rc, .int .i64 rl, .int .i64 ru]), (fun v _ => v = .agg #[.bool a1, .slice p1 n1 cap1, .bool c1, .int .i64 l1, .int .i64 u1]), (fun v _ => v = .agg #[.bool a2, .slice p2 n2 cap2, .bool c2, .int .i64 l2, .int .i64 u2]), (fun v x => StV (ra, rL, rc, rl, ru) v x), (fun v _ => v = .bool true), (fun v _ => v = .bool false), (fun v _ => v = .bool false), (fun v _ => v = .agg #[.bool a1, .slice p1 n1 cap1, .bool c1, .int .i64 l1, .int .i64 u1]), (fun v _ => v = .bool true), (fun v _ => v = .bool false), (fun v _ => v = .bool false), (fun v _ => v = .bool false), (fun v _ => v = .agg #[.bool a2, .slice p2 n2 cap2, .bool c2, .int .i64 l2, .int .i64 u2]), (fun v _ => v = .bool true), (fun v _ => v = .bool false), (fun v _ => v = .bool false), (fun v _ => v = .bool false), (fun v _ => v = .agg #[.bool a3, .slice p3 n3 cap3, .bool c3, .int .i64 l3, .int .i64 u3]), (fun v _ => v = .bool true), (fun v _ => v = .bool false), (fun v _ => v = .bool false)].getD j (fun _ _ => True)) ?stable y5 hBd ?step (fun V => ⟨List.toArray ((Value.slice a len cap) :: (Value.slice b lenb capb) :: (undef) :: (undef) :: (Value.bool false) :: (Value.pointer (some { block := x1.heap.size, off := 0 })) :: (Value.pointer (some { block := x1.heap.size + 1, off := 0 })) :: (Value.pointer (some { block := x3.heap.size, off := 0 })) :: (Value.pointer (some { block := x3.heap.size + 1, off := 0 })) :: (Value.pointer (some { block := x5.heap.size, off := 0 })) :: (undef) :: (Value.slice a len cap) :: (Value.int IntKind.i64 ↑len) :: (Value.bool false) :: (Value.bool false) :: (Value.slice b lenb capb) :: (Value.int IntKind.i64 ↑lenb) :: (Value.bool false) :: (Value.bool false) :: (Value.tuple #[Value.agg #[Value.bool a1, Value.slice p1 n1 cap1, Value.bool c1, Value.int IntKind.i64 l1, Value.int IntKind.i64 u1], Value.agg #[Value.bool a2, Value.slice p2 n2 cap2, Value.bool c2, Value.int IntKind.i64 l2, Value.int IntKind.i64 u2]]) :: (Value.slice a len cap) :: (Value.tuple #[Value.agg #[Value.bool a1, Value.slice p1 n1 cap1, Value.bool c1, Value.int IntKind.i64 l1, Value.int IntKind.i64 u1], Value.agg #[Value.bool a2, Value.slice p2 n2 cap2, Value.bool c2, Value.int IntKind.i64 l2, Value.int IntKind.i64 u2]]) :: (Value.agg #[Value.bool a1, Value.slice p1 n1 cap1, Value.bool c1, Value.int IntKind.i64 l1, Value.int IntKind.i64 u1]) :: (Value.agg #[Value.bool a2, Value.slice p2 n2 cap2, Value.bool c2, Value.int IntKind.i64 l2, Value.int IntKind.i64 u2]) :: (Value.tuple #[Value.agg #[Value.bool a3, Value.slice p3 n3 cap3, Value.bool c3, Value.int IntKind.i64 l3, Value.int IntKind.i64 u3], Value.agg #[Value.bool a4, Value.slice p4 n4 cap4, Value.bool c4, Value.int IntKind.i64 l4, Value.int IntKind.i64 u4]]) :: (Value.slice b lenb capb) :: (Value.tuple #[Value.agg #[Value.bool a3, Value.slice p3 n3 cap3, Value.bool c3, Value.int IntKind.i64 l3, Value.int IntKind.i64 u3], Value.agg #[Value.bool a4, Value.slice p4 n4 cap4, Value.bool c4, Value.int IntKind.i64 l4, Value.int IntKind.i64 u4]]) :: (Value.agg #[Value.bool a3, Value.slice p3 n3 cap3, Value.bool c3, Value.int IntKind.i64 l3, Value.int IntKind.i64 u3]) :: (Value.agg #[Value.bool a4, Value.slice p4 n4 cap4, Value.bool c4, Value.int IntKind.i64 l4, Value.int IntKind.i64 u4]) :: (Value.agg #[Value.bool a1, Value.slice p1 n1 cap1, Value.bool c1, Value.int IntKind.i64 l1, Value.int IntKind.i64 u1]) :: (Value.agg #[Value.bool a2, Value.slice p2 n2 cap2, Value.bool c2, Value.int IntKind.i64 l2, Value.int IntKind.i64 u2]) :: (Value.agg #[Value.bool ra, Value.slice p5 n5 cap5, Value.bool rc, Value.int IntKind.i64 rl, Value.int IntKind.i64 ru]) :: (V 0) :: (V 1) :: (V 2) :: (V 3) :: (V 4) :: (V 5) :: (V 6) :: (V 7) :: (V 8) :: (V 9) :: (V 10) :: (V 11) :: (V 12) :: (V 13) :: (V 14) :: (V 15) :: (V 16) :: (V 17) :: (V 18) :: (V 19) :: (V 20) :: (undef) :: (undef) :: (undef) :: (undef) :: (undef) :: (undef) :: (undef) :: (undef) :: (undef) :: (undef) :: (undef) :: (undef) :: (undef) :: (undef) :: (undef) :: (undef) :: (undef) :: (undef) :: (undef) :: (undef) :: (undef) :: (undef) :: (undef) :: (undef) :: (undef) :: (undef) :: (undef) :: (undef) :: (undef) :: (undef) :: (undef) :: (undef) :: (undef) :: (undef) :: (undef) :: (undef) :: (undef) :: (undef) :: (undef) :: (undef) :: (undef) :: (undef) :: (undef) :: (undef) :: (undef) :: (undef) :: (undef) :: (undef) :: (undef) :: (undef) :: (undef) :: (undef) :: (undef) :: (undef) :: (undef) :: (undef) :: (undef) :: (undef) :: (undef) :: (undef) :: (undef) :: (undef) :: []), []⟩) (fun V => by kernel_rfl) ?fin
          case stable =>
            intro i v x y ht hb
            rcases i with _ | i
            · exact ht
            rcases i with _ | i
            · exact ht
            rcases i with _ | i
            · exact ht
            rcases i with _ | i
            · exact StV.later ht hb
            rcases i with _ | i
            · exact ht
            rcases i with _ | i
            · exact ht
            rcases i with _ | i
            · exact ht
            rcases i with _ | i
            · exact ht
            rcases i with _ | i
            · exact ht
            rcases i with _ | i
            · exact ht
            rcases i with _ | i
            · exact ht
            rcases i with _ | i
            · exact ht
            rcases i with _ | i
            · exact ht
            rcases i with _ | i
            · exact ht
            rcases i with _ | i
            · exact ht
            rcases i with _ | i
            · exact ht
            rcases i with _ | i
            · exact ht
            rcases i with _ | i
            · exact ht
            rcases i with _ | i
            · exact ht
            rcases i with _ | i
            · exact ht
            rcases i with _ | i
            · exact ht
            exact trivial
          case step =>
            intro i o ho ρ y x hBx hdep hout
            rcases i with _ | i
            · obtain rfl := Option.some.inj ho
              have o9 : ρ (.tmp 9) = Value.pointer (some { block := x5.heap.size, off := 0 }) := hout (.tmp 9) rfl
              have ocn : ∀ v, ρ (.const v) = v := fun v => hout (.const v) rfl
              have ofn : ∀ f, ρ (.func f) = .func (.func f) #[] #[] := fun f => hout (.func f) rfl
              clear hdep hout
              refine .inl ⟨?_, ?_⟩
              · rfl
              obtain ⟨_, cc0, cc1, cc2, cc3, cc4, _⟩ := (P5.out.later hBx).box
              show GivesP _ _ _ (fun v _ => v = .agg #[.bool ra, .slice p5 n5 cap5, .bool rc, .int .i64 rl, .int .i64 ru]) _
              refine GivesP.val (.agg #[.bool ra, .slice p5 n5 cap5, .bool rc, .int .i64 rl, .int .i64 ru]) rfl ?_
              go_simp
            rcases i with _ | i
            · obtain rfl := Option.some.inj ho
              have o5 : ρ (.tmp 5) = Value.pointer (some { block := x1.heap.size, off := 0 }) := hout (.tmp 5) rfl
              have ocn : ∀ v, ρ (.const v) = v := fun v => hout (.const v) rfl
              have ofn : ∀ f, ρ (.func f) = .func (.func f) #[] #[] := fun f => hout (.func f) rfl
              clear hdep hout
              refine .inl ⟨?_, ?_⟩
              · rfl
              obtain ⟨_, cc0, cc1, cc2, cc3, cc4, _⟩ := (P1.out.later hBx).box
              show GivesP _ _ _ (fun v _ => v = .agg #[.bool a1, .slice p1 n1 cap1, .bool c1, .int .i64 l1, .int .i64 u1]) _
              refine GivesP.val (.agg #[.bool a1, .slice p1 n1 cap1, .bool c1, .int .i64 l1, .int .i64 u1]) rfl ?_
              go_simp
            rcases i with _ | i
            · obtain rfl := Option.some.inj ho
              have o6 : ρ (.tmp 6) = Value.pointer (some { block := x1.heap.size + 1, off := 0 }) := hout (.tmp 6) rfl
              have ocn : ∀ v, ρ (.const v) = v := fun v => hout (.const v) rfl
              have ofn : ∀ f, ρ (.func f) = .func (.func f) #[] #[] := fun f => hout (.func f) rfl
              clear hdep hout
              refine .inl ⟨?_, ?_⟩
              · rfl
              obtain ⟨_, cc0, cc1, cc2, cc3, cc4, _⟩ := (P2.out.later hBx).box
              show GivesP _ _ _ (fun v _ => v = .agg #[.bool a2, .slice p2 n2 cap2, .bool c2, .int .i64 l2, .int .i64 u2]) _
              refine GivesP.val (.agg #[.bool a2, .slice p2 n2 cap2, .bool c2, .int .i64 l2, .int .i64 u2]) rfl ?_
              go_simp
            rcases i with _ | i
            · obtain rfl := Option.some.inj ho
              have e1 : ρ (.tmp 33) = .agg #[.bool a1, .slice p1 n1 cap1, .bool c1, .int .i64 l1, .int .i64 u1] := (hdep ⟨1, .data⟩ (by simp) rfl 33 rfl).1
              have e2 : ρ (.tmp 34) = .agg #[.bool a2, .slice p2 n2 cap2, .bool c2, .int .i64 l2, .int .i64 u2] := (hdep ⟨2, .data⟩ (by simp) rfl 34 rfl).1
              have ocn : ∀ v, ρ (.const v) = v := fun v => hout (.const v) rfl
              have ofn : ∀ f, ρ (.func f) = .func (.func f) #[] #[] := fun f => hout (.func f) rfl
              clear hdep hout
              refine .inl ⟨?_, ?_⟩
              · rfl
              show GivesP _ _ _ (fun v x => StV (ra, rL, rc, rl, ru) v x) _
              refine GivesP.call ((stJoin_spec x true true _ _ _ _ _ _ L1 _ _ _ _ _ L2 _ _ _ (P1.out.later hBx).row (P2.out.later hBx).row).mono fun e w9 h9 => stV_of h9 HR.out) ?_
              go_simp
            rcases i with _ | i
            · obtain rfl := Option.some.inj ho
              have e0 : ρ (.tmp 32) = .agg #[.bool ra, .slice p5 n5 cap5, .bool rc, .int .i64 rl, .int .i64 ru] := (hdep ⟨0, .data⟩ (by simp) rfl 32 rfl).1
              have t3 : StV (ra, rL, rc, rl, ru) (ρ (.tmp 35)) x := (hdep ⟨3, .data⟩ (by simp) rfl 35 rfl).1
              obtain ⟨q3, k3, B3, E3, e3, s3⟩ := t3
              have ocn : ∀ v, ρ (.const v) = v := fun v => hout (.const v) rfl
              have ofn : ∀ f, ρ (.func f) = .func (.func f) #[] #[] := fun f => hout (.func f) rfl
              clear hdep hout
              refine .inl ⟨?_, ?_⟩
              · rfl
              show GivesP _ _ _ (fun v _ => v = .bool true) _
              refine GivesP.call ((lgState_same x true true _ _ _ _ ra _ _ rL rc rl ru (P5.out.later hBx).row s3).mono fun e w9 h9 => ⟨_, h9.1, rfl, h9.2⟩) ?_
              go_simp
            rcases i with _ | i
            · obtain rfl := Option.some.inj ho
              have e4 : ρ (.tmp 36) = .bool true := (hdep ⟨4, .data⟩ (by simp) rfl 36 rfl).1
              have ocn : ∀ v, ρ (.const v) = v := fun v => hout (.const v) rfl
              have ofn : ∀ f, ρ (.func f) = .func (.func f) #[] #[] := fun f => hout (.func f) rfl
              clear hdep hout
              refine .inl ⟨?_, ?_⟩
              · rfl
              show GivesP _ _ _ (fun v _ => v = .bool false) _
              refine GivesP.val (.bool false) rfl ?_
              go_simp
            rcases i with _ | i
            · obtain rfl := Option.some.inj ho
              have e5 : ρ (.tmp 37) = .bool false := (hdep ⟨5, .data⟩ (by simp) rfl 37 rfl).1
              have ocn : ∀ v, ρ (.const v) = v := fun v => hout (.const v) rfl
              have ofn : ∀ f, ρ (.func f) = .func (.func f) #[] #[] := fun f => hout (.func f) rfl
              clear hdep hout
              refine .inl ⟨?_, ?_⟩
              · rfl
              show GivesP _ _ _ (fun v _ => v = .bool false) _
              refine GivesP.val (.bool false) rfl ?_
              go_simp
            rcases i with _ | i
            · obtain rfl := Option.some.inj ho
              have o5 : ρ (.tmp 5) = Value.pointer (some { block := x1.heap.size, off := 0 }) := hout (.tmp 5) rfl
              have eg : ρ (.tmp 38) = .bool false := (hdep ⟨6, .guard⟩ (by simp) rfl 38 rfl).1
              have yg : y 6 = some false := (hdep ⟨6, .guard⟩ (by simp) rfl 38 rfl).2.trans (by rw [eg]; rfl)
              have ocn : ∀ v, ρ (.const v) = v := fun v => hout (.const v) rfl
              have ofn : ∀ f, ρ (.func f) = .func (.func f) #[] #[] := fun f => hout (.func f) rfl
              clear hdep hout
              refine .inl ⟨?_, ?_⟩
              · show (y 6 == some false) = true
                rw [yg]; rfl
              obtain ⟨_, cc0, cc1, cc2, cc3, cc4, _⟩ := (P1.out.later hBx).box
              show GivesP _ _ _ (fun v _ => v = .agg #[.bool a1, .slice p1 n1 cap1, .bool c1, .int .i64 l1, .int .i64 u1]) _
              refine GivesP.val (.agg #[.bool a1, .slice p1 n1 cap1, .bool c1, .int .i64 l1, .int .i64 u1]) rfl ?_
              go_simp
            rcases i with _ | i
            · obtain rfl := Option.some.inj ho
              have e7 : ρ (.tmp 39) = .agg #[.bool a1, .slice p1 n1 cap1, .bool c1, .int .i64 l1, .int .i64 u1] := (hdep ⟨7, .data⟩ (by simp) rfl 39 rfl).1
              have eg : ρ (.tmp 38) = .bool false := (hdep ⟨6, .guard⟩ (by simp) rfl 38 rfl).1
              have yg : y 6 = some false := (hdep ⟨6, .guard⟩ (by simp) rfl 38 rfl).2.trans (by rw [eg]; rfl)
              have ocn : ∀ v, ρ (.const v) = v := fun v => hout (.const v) rfl
              have ofn : ∀ f, ρ (.func f) = .func (.func f) #[] #[] := fun f => hout (.func f) rfl
              clear hdep hout
              refine .inl ⟨?_, ?_⟩
              · show (y 6 == some false) = true
                rw [yg]; rfl
              show GivesP _ _ _ (fun v _ => v = .bool true) _
              refine GivesP.call ((stOk_spec x true _ _ _ _ L1 _ _ _ (P1.out.later hBx).row).mono fun e w9 h9 => ⟨_, h9.1, by rw [HAo.out], h9.2⟩) ?_
              go_simp
            rcases i with _ | i
            · obtain rfl := Option.some.inj ho
              have e8 : ρ (.tmp 40) = .bool true := (hdep ⟨8, .data⟩ (by simp) rfl 40 rfl).1
              have eg : ρ (.tmp 38) = .bool false := (hdep ⟨6, .guard⟩ (by simp) rfl 38 rfl).1
              have yg : y 6 = some false := (hdep ⟨6, .guard⟩ (by simp) rfl 38 rfl).2.trans (by rw [eg]; rfl)
              have ocn : ∀ v, ρ (.const v) = v := fun v => hout (.const v) rfl
              have ofn : ∀ f, ρ (.func f) = .func (.func f) #[] #[] := fun f => hout (.func f) rfl
              clear hdep hout
              refine .inl ⟨?_, ?_⟩
              · show (y 6 == some false) = true
                rw [yg]; rfl
              show GivesP _ _ _ (fun v _ => v = .bool false) _
              refine GivesP.val (.bool false) rfl ?_
              go_simp
            rcases i with _ | i
            · obtain rfl := Option.some.inj ho
              have e6 : ρ (.tmp 38) = .bool false := (hdep ⟨6, .data⟩ (by simp) rfl 38 rfl).1
              have e9 : ρ (.tmp 41) = .bool false := (hdep ⟨9, .data⟩ (by simp) rfl 41 rfl).1
              have ocn : ∀ v, ρ (.const v) = v := fun v => hout (.const v) rfl
              have ofn : ∀ f, ρ (.func f) = .func (.func f) #[] #[] := fun f => hout (.func f) rfl
              clear hdep hout
              refine .inl ⟨?_, ?_⟩
              · rfl
              show GivesP _ _ _ (fun v _ => v = .bool false) _
              refine GivesP.val (.bool false) rfl ?_
              go_simp
            rcases i with _ | i
            · obtain rfl := Option.some.inj ho
              have e10 : ρ (.tmp 42) = .bool false := (hdep ⟨10, .data⟩ (by simp) rfl 42 rfl).1
              have ocn : ∀ v, ρ (.const v) = v := fun v => hout (.const v) rfl
              have ofn : ∀ f, ρ (.func f) = .func (.func f) #[] #[] := fun f => hout (.func f) rfl
              clear hdep hout
              refine .inl ⟨?_, ?_⟩
              · rfl
              show GivesP _ _ _ (fun v _ => v = .bool false) _
              refine GivesP.val (.bool false) rfl ?_
              go_simp
            rcases i with _ | i
            · obtain rfl := Option.some.inj ho
              have o6 : ρ (.tmp 6) = Value.pointer (some { block := x1.heap.size + 1, off := 0 }) := hout (.tmp 6) rfl
              have eg : ρ (.tmp 43) = .bool false := (hdep ⟨11, .guard⟩ (by simp) rfl 43 rfl).1
              have yg : y 11 = some false := (hdep ⟨11, .guard⟩ (by simp) rfl 43 rfl).2.trans (by rw [eg]; rfl)
              have ocn : ∀ v, ρ (.const v) = v := fun v => hout (.const v) rfl
              have ofn : ∀ f, ρ (.func f) = .func (.func f) #[] #[] := fun f => hout (.func f) rfl
              clear hdep hout
              refine .inl ⟨?_, ?_⟩
              · show (y 11 == some false) = true
                rw [yg]; rfl
              obtain ⟨_, cc0, cc1, cc2, cc3, cc4, _⟩ := (P2.out.later hBx).box
              show GivesP _ _ _ (fun v _ => v = .agg #[.bool a2, .slice p2 n2 cap2, .bool c2, .int .i64 l2, .int .i64 u2]) _
              refine GivesP.val (.agg #[.bool a2, .slice p2 n2 cap2, .bool c2, .int .i64 l2, .int .i64 u2]) rfl ?_
              go_simp
            rcases i with _ | i
            · obtain rfl := Option.some.inj ho
              have e12 : ρ (.tmp 44) = .agg #[.bool a2, .slice p2 n2 cap2, .bool c2, .int .i64 l2, .int .i64 u2] := (hdep ⟨12, .data⟩ (by simp) rfl 44 rfl).1
              have eg : ρ (.tmp 43) = .bool false := (hdep ⟨11, .guard⟩ (by simp) rfl 43 rfl).1
              have yg : y 11 = some false := (hdep ⟨11, .guard⟩ (by simp) rfl 43 rfl).2.trans (by rw [eg]; rfl)
              have ocn : ∀ v, ρ (.const v) = v := fun v => hout (.const v) rfl
              have ofn : ∀ f, ρ (.func f) = .func (.func f) #[] #[] := fun f => hout (.func f) rfl
              clear hdep hout
              refine .inl ⟨?_, ?_⟩
              · show (y 11 == some false) = true
                rw [yg]; rfl
              show GivesP _ _ _ (fun v _ => v = .bool true) _
              refine GivesP.call ((stOk_spec x true _ _ _ _ L2 _ _ _ (P2.out.later hBx).row).mono fun e w9 h9 => ⟨_, h9.1, by rw [HBo.out], h9.2⟩) ?_
              go_simp
            rcases i with _ | i
            · obtain rfl := Option.some.inj ho
              have e13 : ρ (.tmp 45) = .bool true := (hdep ⟨13, .data⟩ (by simp) rfl 45 rfl).1
              have eg : ρ (.tmp 43) = .bool false := (hdep ⟨11, .guard⟩ (by simp) rfl 43 rfl).1
              have yg : y 11 = some false := (hdep ⟨11, .guard⟩ (by simp) rfl 43 rfl).2.trans (by rw [eg]; rfl)
              have ocn : ∀ v, ρ (.const v) = v := fun v => hout (.const v) rfl
              have ofn : ∀ f, ρ (.func f) = .func (.func f) #[] #[] := fun f => hout (.func f) rfl
              clear hdep hout
              refine .inl ⟨?_, ?_⟩
              · show (y 11 == some false) = true
                rw [yg]; rfl
              show GivesP _ _ _ (fun v _ => v = .bool false) _
              refine GivesP.val (.bool false) rfl ?_
              go_simp
            rcases i with _ | i
            · obtain rfl := Option.some.inj ho
              have e11 : ρ (.tmp 43) = .bool false := (hdep ⟨11, .data⟩ (by simp) rfl 43 rfl).1
              have e14 : ρ (.tmp 46) = .bool false := (hdep ⟨14, .data⟩ (by simp) rfl 46 rfl).1
              have ocn : ∀ v, ρ (.const v) = v := fun v => hout (.const v) rfl
              have ofn : ∀ f, ρ (.func f) = .func (.func f) #[] #[] := fun f => hout (.func f) rfl
              clear hdep hout
              refine .inl ⟨?_, ?_⟩
              · rfl
              show GivesP _ _ _ (fun v _ => v = .bool false) _
              refine GivesP.val (.bool false) rfl ?_
              go_simp
            rcases i with _ | i
            · obtain rfl := Option.some.inj ho
              have e15 : ρ (.tmp 47) = .bool false := (hdep ⟨15, .data⟩ (by simp) rfl 47 rfl).1
              have ocn : ∀ v, ρ (.const v) = v := fun v => hout (.const v) rfl
              have ofn : ∀ f, ρ (.func f) = .func (.func f) #[] #[] := fun f => hout (.func f) rfl
              clear hdep hout
              refine .inl ⟨?_, ?_⟩
              · rfl
              show GivesP _ _ _ (fun v _ => v = .bool false) _
              refine GivesP.val (.bool false) rfl ?_
              go_simp
            rcases i with _ | i
            · obtain rfl := Option.some.inj ho
              have o7 : ρ (.tmp 7) = Value.pointer (some { block := x3.heap.size, off := 0 }) := hout (.tmp 7) rfl
              have eg : ρ (.tmp 48) = .bool false := (hdep ⟨16, .guard⟩ (by simp) rfl 48 rfl).1
              have yg : y 16 = some false := (hdep ⟨16, .guard⟩ (by simp) rfl 48 rfl).2.trans (by rw [eg]; rfl)
              have ocn : ∀ v, ρ (.const v) = v := fun v => hout (.const v) rfl
              have ofn : ∀ f, ρ (.func f) = .func (.func f) #[] #[] := fun f => hout (.func f) rfl
              clear hdep hout
              refine .inl ⟨?_, ?_⟩
              · show (y 16 == some false) = true
                rw [yg]; rfl
              obtain ⟨_, cc0, cc1, cc2, cc3, cc4, _⟩ := (P3.out.later hBx).box
              show GivesP _ _ _ (fun v _ => v = .agg #[.bool a3, .slice p3 n3 cap3, .bool c3, .int .i64 l3, .int .i64 u3]) _
              refine GivesP.val (.agg #[.bool a3, .slice p3 n3 cap3, .bool c3, .int .i64 l3, .int .i64 u3]) rfl ?_
              go_simp
            rcases i with _ | i
            · obtain rfl := Option.some.inj ho
              have e17 : ρ (.tmp 49) = .agg #[.bool a3, .slice p3 n3 cap3, .bool c3, .int .i64 l3, .int .i64 u3] := (hdep ⟨17, .data⟩ (by simp) rfl 49 rfl).1
              have eg : ρ (.tmp 48) = .bool false := (hdep ⟨16, .guard⟩ (by simp) rfl 48 rfl).1
              have yg : y 16 = some false := (hdep ⟨16, .guard⟩ (by simp) rfl 48 rfl).2.trans (by rw [eg]; rfl)
              have ocn : ∀ v, ρ (.const v) = v := fun v => hout (.const v) rfl
              have ofn : ∀ f, ρ (.func f) = .func (.func f) #[] #[] := fun f => hout (.func f) rfl
              clear hdep hout
              refine .inl ⟨?_, ?_⟩
              · show (y 16 == some false) = true
                rw [yg]; rfl
              show GivesP _ _ _ (fun v _ => v = .bool true) _
              refine GivesP.call ((stOk_spec x true _ _ _ _ L3 _ _ _ (P3.out.later hBx).row).mono fun e w9 h9 => ⟨_, h9.1, by rw [HCo.out], h9.2⟩) ?_
              go_simp
            rcases i with _ | i
            · obtain rfl := Option.some.inj ho
              have e18 : ρ (.tmp 50) = .bool true := (hdep ⟨18, .data⟩ (by simp) rfl 50 rfl).1
              have eg : ρ (.tmp 48) = .bool false := (hdep ⟨16, .guard⟩ (by simp) rfl 48 rfl).1
              have yg : y 16 = some false := (hdep ⟨16, .guard⟩ (by simp) rfl 48 rfl).2.trans (by rw [eg]; rfl)
              have ocn : ∀ v, ρ (.const v) = v := fun v => hout (.const v) rfl
              have ofn : ∀ f, ρ (.func f) = .func (.func f) #[] #[] := fun f => hout (.func f) rfl
              clear hdep hout
              refine .inl ⟨?_, ?_⟩
              · show (y 16 == some false) = true
                rw [yg]; rfl
              show GivesP _ _ _ (fun v _ => v = .bool false) _
              refine GivesP.val (.bool false) rfl ?_
              go_simp
            rcases i with _ | i
            · obtain rfl := Option.some.inj ho
              have e16 : ρ (.tmp 48) = .bool false := (hdep ⟨16, .data⟩ (by simp) rfl 48 rfl).1
              have e19 : ρ (.tmp 51) = .bool false := (hdep ⟨19, .data⟩ (by simp) rfl 51 rfl).1
              have ocn : ∀ v, ρ (.const v) = v := fun v => hout (.const v) rfl
              have ofn : ∀ f, ρ (.func f) = .func (.func f) #[] #[] := fun f => hout (.func f) rfl
              clear hdep hout
              refine .inl ⟨?_, ?_⟩
              · rfl
              show GivesP _ _ _ (fun v _ => v = .bool false) _
              refine GivesP.val (.bool false) rfl ?_
              go_simp
            cases ho
          case fin =>
            intro V x hBx hV
            have ev : V 20 = .bool false := hV 20 (by simp)
            clear hV
            go_wp2_with fail
            go_meet
            exact ⟨ev, HB.out.trans (hBx.mono HB.out.size), P1.out.later hBx, P2.out.later hBx, P3.out.later hBx, P5.out.later hBx⟩
        case rest =>
        rename World => z7
        clear HB P1 P2 P3 P5
        obtain ⟨rfl, HB, P1, P2, P3, P5⟩ := hcut
        go_wp2_with fail
        have F := stJ_facts HAo.out HBo.out HR.out
        have HF : Hid (stOk ra rL (rc, rl, ru) = true ∧ stIn a1 L1 (c1, l1, u1) ra rL (rc, rl, ru) = true ∧ stIn a2 L2 (c2, l2, u2) ra rL (rc, rl, ru) = true ∧ stBoth false a2 L2 (c2, l2, u2) a1 L1 (c1, l1, u1) = (ra, rL, rc, rl, ru)) := F
        clear F
        have HN0 : Hid (stBoth false a1 L1 (c1, l1, u1) false [] (false, 0, 0) = (a1, L1, c1, l1, u1)) := stJ_none_r HAo.out
        go_cut [83] (fun s y => s = .bool false ∧ Hid (Below w.heap.size w y) ∧ Hid (Pr y w.heap.size x1.heap.size x1.heap.size a1 p1 n1 cap1 c1 l1 u1 L1) ∧ Hid (Pr y w.heap.size x1.heap.size (x1.heap.size + 1) a2 p2 n2 cap2 c2 l2 u2 L2) ∧ Hid (Pr y y1.heap.size x3.heap.size x3.heap.size a3 p3 n3 cap3 c3 l3 u3 L3) ∧ Hid (Pr y y3.heap.size x5.heap.size x5.heap.size ra p5 n5 cap5 rc rl ru rL))
        case first =>
          have hBd : Below z7.heap.size z7 z7.drew := (Below.refl _ _).drew
          refine wp_region_preds (by kernel_rfl) (by kernel_rfl) (by kernel_rfl) (by kernel_rfl) (fun j => [(fun v _ => v = .agg #[.bool a1, .slice p1 n1 cap1, .bool c1, .int .i64 l1, .int .i64 u1]), (fun v _ => v = .agg #[.bool ra, .slice p5 n5 cap5, .bool rc, .int .i64 rl, .int .i64 ru]), (fun v _ => v = .bool true), (fun v _ => v = .bool false), (fun v _ => v = .bool false), (fun v _ => v = .agg #[.bool a2, .slice p2 n2 cap2, .bool c2, .int .i64 l2, .int .i64 u2]), (fun v _ => v = .agg #[.bool ra, .slice p5 n5 cap5, .bool rc, .int .i64 rl, .int .i64 ru]), (fun v _ => v = .bool true), (fun v _ => v = .bool false), (fun v _ => v = .bool false), (fun v _ => v = .bool false), (fun v _ => v = .agg #[.bool a2, .slice p2 n2 cap2, .bool c2, .int .i64 l2, .int .i64 u2]), (fun v _ => v = .agg #[.bool a1, .slice p1 n1 cap1, .bool c1, .int .i64 l1, .int .i64 u1]), (fun v x => StV (ra, rL, rc, rl, ru) v x), (fun v _ => v = .agg #[.bool ra, .slice p5 n5 cap5, .bool rc, .int .i64 rl, .int .i64 ru]), (fun v _ => v = .bool true), (fun v _ => v = .bool false), (fun v _ => v = .bool false), (fun v _ => v = .bool false), (fun v _ => v = .agg #[.bool a1, .slice p1 n1 cap1, .bool c1, .int .i64 l1, .int .i64 u1]), (fun v _ => v = .agg #[.bool false, .slice none 0 0, .bool false, .int .i64 0, .int .i64 0]), (fun v x => StV (a1, L1, c1, l1, u1) v x), (fun v _ => v = .agg #[.bool a1, .slice p1 n1 cap1, .bool c1, .int .i64 l1, .int .i64 u1]), (fun v _ => v = .bool true), (fun v _ => v = .bool false), (fun v _ => v = .bool false)].getD j (fun _ _ => True)) ?stable z7 hBd ?step (fun V => ⟨List.toArray ((Value.slice a len cap) :: (Value.slice b lenb capb) :: (undef) :: (undef) :: (Value.bool false) :: (Value.pointer (some { block := x1.heap.size, off := 0 })) :: (Value.pointer (some { block := x1.heap.size + 1, off := 0 })) :: (Value.pointer (some { block := x3.heap.size, off := 0 })) :: (u8) :: (Value.pointer (some { block := x5.heap.size, off := 0 })) :: (undef) :: (u11) :: (u12) :: (u13) :: (u14) :: (u15) :: (u16) :: (u17) :: (u18) :: (u19) :: (u20) :: (u21) :: (u22) :: (u23) :: (u24) :: (u25) :: (u26) :: (u27) :: (u28) :: (u29) :: (u30) :: (u31) :: (u32) :: (u33) :: (u34) :: (u35) :: (u36) :: (u37) :: (u38) :: (u39) :: (u40) :: (u41) :: (u42) :: (u43) :: (u44) :: (u45) :: (u46) :: (u47) :: (u48) :: (u49) :: (u50) :: (u51) :: (Value.bool false) :: (u53) :: (u54) :: (u55) :: (u56) :: (u57) :: (V 0) :: (V 1) :: (V 2) :: (V 3) :: (V 4) :: (V 5) :: (V 6) :: (V 7) :: (V 8) :: (V 9) :: (V 10) :: (V 11) :: (V 12) :: (V 13) :: (V 14) :: (V 15) :: (V 16) :: (V 17) :: (V 18) :: (V 19) :: (V 20) :: (V 21) :: (V 22) :: (V 23) :: (V 24) :: (V 25) :: (u84) :: (u85) :: (u86) :: (u87) :: (u88) :: (u89) :: (u90) :: (u91) :: (u92) :: (u93) :: (u94) :: (u95) :: (u96) :: (u97) :: (u98) :: (u99) :: (u100) :: (u101) :: (u102) :: (u103) :: (u104) :: (u105) :: (u106) :: (u107) :: (u108) :: (u109) :: (u110) :: (u111) :: (u112) :: (u113) :: (u114) :: []), []⟩) (fun V => by kernel_rfl) ?fin
          case stable =>
            intro i v x y ht hb
            rcases i with _ | i
            · exact ht
            rcases i with _ | i
            · exact ht
            rcases i with _ | i
            · exact ht
            rcases i with _ | i
            · exact ht
            rcases i with _ | i
            · exact ht
            rcases i with _ | i
            · exact ht
            rcases i with _ | i
            · exact ht
            rcases i with _ | i
            · exact ht
            rcases i with _ | i
            · exact ht
            rcases i with _ | i
            · exact ht
            rcases i with _ | i
            · exact ht
            rcases i with _ | i
            · exact ht
            rcases i with _ | i
            · exact ht
            rcases i with _ | i
            · exact StV.later ht hb
            rcases i with _ | i
            · exact ht
            rcases i with _ | i
            · exact ht
            rcases i with _ | i
            · exact ht
            rcases i with _ | i
            · exact ht
            rcases i with _ | i
            · exact ht
            rcases i with _ | i
            · exact ht
            rcases i with _ | i
            · exact ht
            rcases i with _ | i
            · exact StV.later ht hb
            rcases i with _ | i
            · exact ht
            rcases i with _ | i
            · exact ht
            rcases i with _ | i
            · exact ht
            rcases i with _ | i
            · exact ht
            exact trivial
          case step =>
            intro i o ho ρ y x hBx hdep hout
            rcases i with _ | i
            · obtain rfl := Option.some.inj ho
              have o5 : ρ (.tmp 5) = Value.pointer (some { block := x1.heap.size, off := 0 }) := hout (.tmp 5) rfl
              have ocn : ∀ v, ρ (.const v) = v := fun v => hout (.const v) rfl
              have ofn : ∀ f, ρ (.func f) = .func (.func f) #[] #[] := fun f => hout (.func f) rfl
              clear hdep hout
              refine .inl ⟨?_, ?_⟩
              · rfl
              obtain ⟨_, cc0, cc1, cc2, cc3, cc4, _⟩ := (P1.out.later hBx).box
              show GivesP _ _ _ (fun v _ => v = .agg #[.bool a1, .slice p1 n1 cap1, .bool c1, .int .i64 l1, .int .i64 u1]) _
              refine GivesP.val (.agg #[.bool a1, .slice p1 n1 cap1, .bool c1, .int .i64 l1, .int .i64 u1]) rfl ?_
              go_simp
            rcases i with _ | i
            · obtain rfl := Option.some.inj ho
              have o9 : ρ (.tmp 9) = Value.pointer (some { block := x5.heap.size, off := 0 }) := hout (.tmp 9) rfl
              have ocn : ∀ v, ρ (.const v) = v := fun v => hout (.const v) rfl
              have ofn : ∀ f, ρ (.func f) = .func (.func f) #[] #[] := fun f => hout (.func f) rfl
              clear hdep hout
              refine .inl ⟨?_, ?_⟩
              · rfl
              obtain ⟨_, cc0, cc1, cc2, cc3, cc4, _⟩ := (P5.out.later hBx).box
              show GivesP _ _ _ (fun v _ => v = .agg #[.bool ra, .slice p5 n5 cap5, .bool rc, .int .i64 rl, .int .i64 ru]) _
              refine GivesP.val (.agg #[.bool ra, .slice p5 n5 cap5, .bool rc, .int .i64 rl, .int .i64 ru]) rfl ?_
              go_simp
            rcases i with _ | i
            · obtain rfl := Option.some.inj ho
              have e0 : ρ (.tmp 58) = .agg #[.bool a1, .slice p1 n1 cap1, .bool c1, .int .i64 l1, .int .i64 u1] := (hdep ⟨0, .data⟩ (by simp) rfl 58 rfl).1
              have e1 : ρ (.tmp 59) = .agg #[.bool ra, .slice p5 n5 cap5, .bool rc, .int .i64 rl, .int .i64 ru] := (hdep ⟨1, .data⟩ (by simp) rfl 59 rfl).1
              have ocn : ∀ v, ρ (.const v) = v := fun v => hout (.const v) rfl
              have ofn : ∀ f, ρ (.func f) = .func (.func f) #[] #[] := fun f => hout (.func f) rfl
              clear hdep hout
              refine .inl ⟨?_, ?_⟩
              · rfl
              show GivesP _ _ _ (fun v _ => v = .bool true) _
              refine GivesP.call ((stIn_impl x true true _ _ _ _ _ _ L1 _ _ _ _ _ rL _ _ _ (P1.out.later hBx).row (P5.out.later hBx).row).mono fun e w9 h9 => ⟨_, h9.1, by rw [HF.out.2.1], h9.2⟩) ?_
              go_simp
            rcases i with _ | i
            · obtain rfl := Option.some.inj ho
              have e2 : ρ (.tmp 60) = .bool true := (hdep ⟨2, .data⟩ (by simp) rfl 60 rfl).1
              have ocn : ∀ v, ρ (.const v) = v := fun v => hout (.const v) rfl
              have ofn : ∀ f, ρ (.func f) = .func (.func f) #[] #[] := fun f => hout (.func f) rfl
              clear hdep hout
              refine .inl ⟨?_, ?_⟩
              · rfl
              show GivesP _ _ _ (fun v _ => v = .bool false) _
              refine GivesP.val (.bool false) rfl ?_
              go_simp
            rcases i with _ | i
            · obtain rfl := Option.some.inj ho
              have e3 : ρ (.tmp 61) = .bool false := (hdep ⟨3, .data⟩ (by simp) rfl 61 rfl).1
              have ocn : ∀ v, ρ (.const v) = v := fun v => hout (.const v) rfl
              have ofn : ∀ f, ρ (.func f) = .func (.func f) #[] #[] := fun f => hout (.func f) rfl
              clear hdep hout
              refine .inl ⟨?_, ?_⟩
              · rfl
              show GivesP _ _ _ (fun v _ => v = .bool false) _
              refine GivesP.val (.bool false) rfl ?_
              go_simp
            rcases i with _ | i
            · obtain rfl := Option.some.inj ho
              have o6 : ρ (.tmp 6) = Value.pointer (some { block := x1.heap.size + 1, off := 0 }) := hout (.tmp 6) rfl
              have eg : ρ (.tmp 62) = .bool false := (hdep ⟨4, .guard⟩ (by simp) rfl 62 rfl).1
              have yg : y 4 = some false := (hdep ⟨4, .guard⟩ (by simp) rfl 62 rfl).2.trans (by rw [eg]; rfl)
              have ocn : ∀ v, ρ (.const v) = v := fun v => hout (.const v) rfl
              have ofn : ∀ f, ρ (.func f) = .func (.func f) #[] #[] := fun f => hout (.func f) rfl
              clear hdep hout
              refine .inl ⟨?_, ?_⟩
              · show (y 4 == some false) = true
                rw [yg]; rfl
              obtain ⟨_, cc0, cc1, cc2, cc3, cc4, _⟩ := (P2.out.later hBx).box
              show GivesP _ _ _ (fun v _ => v = .agg #[.bool a2, .slice p2 n2 cap2, .bool c2, .int .i64 l2, .int .i64 u2]) _
              refine GivesP.val (.agg #[.bool a2, .slice p2 n2 cap2, .bool c2, .int .i64 l2, .int .i64 u2]) rfl ?_
              go_simp
            rcases i with _ | i
            · obtain rfl := Option.some.inj ho
              have o9 : ρ (.tmp 9) = Value.pointer (some { block := x5.heap.size, off := 0 }) := hout (.tmp 9) rfl
              have eg : ρ (.tmp 62) = .bool false := (hdep ⟨4, .guard⟩ (by simp) rfl 62 rfl).1
              have yg : y 4 = some false := (hdep ⟨4, .guard⟩ (by simp) rfl 62 rfl).2.trans (by rw [eg]; rfl)
              have ocn : ∀ v, ρ (.const v) = v := fun v => hout (.const v) rfl
              have ofn : ∀ f, ρ (.func f) = .func (.func f) #[] #[] := fun f => hout (.func f) rfl
              clear hdep hout
              refine .inl ⟨?_, ?_⟩
              · show (y 4 == some false) = true
                rw [yg]; rfl
              obtain ⟨_, cc0, cc1, cc2, cc3, cc4, _⟩ := (P5.out.later hBx).box
              show GivesP _ _ _ (fun v _ => v = .agg #[.bool ra, .slice p5 n5 cap5, .bool rc, .int .i64 rl, .int .i64 ru]) _
              refine GivesP.val (.agg #[.bool ra, .slice p5 n5 cap5, .bool rc, .int .i64 rl, .int .i64 ru]) rfl ?_
              go_simp
            rcases i with _ | i
            · obtain rfl := Option.some.inj ho
              have e5 : ρ (.tmp 63) = .agg #[.bool a2, .slice p2 n2 cap2, .bool c2, .int .i64 l2, .int .i64 u2] := (hdep ⟨5, .data⟩ (by simp) rfl 63 rfl).1
              have e6 : ρ (.tmp 64) = .agg #[.bool ra, .slice p5 n5 cap5, .bool rc, .int .i64 rl, .int .i64 ru] := (hdep ⟨6, .data⟩ (by simp) rfl 64 rfl).1
              have eg : ρ (.tmp 62) = .bool false := (hdep ⟨4, .guard⟩ (by simp) rfl 62 rfl).1
              have yg : y 4 = some false := (hdep ⟨4, .guard⟩ (by simp) rfl 62 rfl).2.trans (by rw [eg]; rfl)
              have ocn : ∀ v, ρ (.const v) = v := fun v => hout (.const v) rfl
              have ofn : ∀ f, ρ (.func f) = .func (.func f) #[] #[] := fun f => hout (.func f) rfl
              clear hdep hout
              refine .inl ⟨?_, ?_⟩
              · show (y 4 == some false) = true
                rw [yg]; rfl
              show GivesP _ _ _ (fun v _ => v = .bool true) _
              refine GivesP.call ((stIn_impl x true true _ _ _ _ _ _ L2 _ _ _ _ _ rL _ _ _ (P2.out.later hBx).row (P5.out.later hBx).row).mono fun e w9 h9 => ⟨_, h9.1, by rw [HF.out.2.2.1], h9.2⟩) ?_
              go_simp
            rcases i with _ | i
            · obtain rfl := Option.some.inj ho
              have e7 : ρ (.tmp 65) = .bool true := (hdep ⟨7, .data⟩ (by simp) rfl 65 rfl).1
              have eg : ρ (.tmp 62) = .bool false := (hdep ⟨4, .guard⟩ (by simp) rfl 62 rfl).1
              have yg : y 4 = some false := (hdep ⟨4, .guard⟩ (by simp) rfl 62 rfl).2.trans (by rw [eg]; rfl)
              have ocn : ∀ v, ρ (.const v) = v := fun v => hout (.const v) rfl
              have ofn : ∀ f, ρ (.func f) = .func (.func f) #[] #[] := fun f => hout (.func f) rfl
              clear hdep hout
              refine .inl ⟨?_, ?_⟩
              · show (y 4 == some false) = true
                rw [yg]; rfl
              show GivesP _ _ _ (fun v _ => v = .bool false) _
              refine GivesP.val (.bool false) rfl ?_
              go_simp
            rcases i with _ | i
            · obtain rfl := Option.some.inj ho
              have e4 : ρ (.tmp 62) = .bool false := (hdep ⟨4, .data⟩ (by simp) rfl 62 rfl).1
              have e8 : ρ (.tmp 66) = .bool false := (hdep ⟨8, .data⟩ (by simp) rfl 66 rfl).1
              have ocn : ∀ v, ρ (.const v) = v := fun v => hout (.const v) rfl
              have ofn : ∀ f, ρ (.func f) = .func (.func f) #[] #[] := fun f => hout (.func f) rfl
              clear hdep hout
              refine .inl ⟨?_, ?_⟩
              · rfl
              show GivesP _ _ _ (fun v _ => v = .bool false) _
              refine GivesP.val (.bool false) rfl ?_
              go_simp
            rcases i with _ | i
            · obtain rfl := Option.some.inj ho
              have e9 : ρ (.tmp 67) = .bool false := (hdep ⟨9, .data⟩ (by simp) rfl 67 rfl).1
              have ocn : ∀ v, ρ (.const v) = v := fun v => hout (.const v) rfl
              have ofn : ∀ f, ρ (.func f) = .func (.func f) #[] #[] := fun f => hout (.func f) rfl
              clear hdep hout
              refine .inl ⟨?_, ?_⟩
              · rfl
              show GivesP _ _ _ (fun v _ => v = .bool false) _
              refine GivesP.val (.bool false) rfl ?_
              go_simp
            rcases i with _ | i
            · obtain rfl := Option.some.inj ho
              have o6 : ρ (.tmp 6) = Value.pointer (some { block := x1.heap.size + 1, off := 0 }) := hout (.tmp 6) rfl
              have eg : ρ (.tmp 68) = .bool false := (hdep ⟨10, .guard⟩ (by simp) rfl 68 rfl).1
              have yg : y 10 = some false := (hdep ⟨10, .guard⟩ (by simp) rfl 68 rfl).2.trans (by rw [eg]; rfl)
              have ocn : ∀ v, ρ (.const v) = v := fun v => hout (.const v) rfl
              have ofn : ∀ f, ρ (.func f) = .func (.func f) #[] #[] := fun f => hout (.func f) rfl
              clear hdep hout
              refine .inl ⟨?_, ?_⟩
              · show (y 10 == some false) = true
                rw [yg]; rfl
              obtain ⟨_, cc0, cc1, cc2, cc3, cc4, _⟩ := (P2.out.later hBx).box
              show GivesP _ _ _ (fun v _ => v = .agg #[.bool a2, .slice p2 n2 cap2, .bool c2, .int .i64 l2, .int .i64 u2]) _
              refine GivesP.val (.agg #[.bool a2, .slice p2 n2 cap2, .bool c2, .int .i64 l2, .int .i64 u2]) rfl ?_
              go_simp
            rcases i with _ | i
            · obtain rfl := Option.some.inj ho
              have o5 : ρ (.tmp 5) = Value.pointer (some { block := x1.heap.size, off := 0 }) := hout (.tmp 5) rfl
              have eg : ρ (.tmp 68) = .bool false := (hdep ⟨10, .guard⟩ (by simp) rfl 68 rfl).1
              have yg : y 10 = some false := (hdep ⟨10, .guard⟩ (by simp) rfl 68 rfl).2.trans (by rw [eg]; rfl)
              have ocn : ∀ v, ρ (.const v) = v := fun v => hout (.const v) rfl
              have ofn : ∀ f, ρ (.func f) = .func (.func f) #[] #[] := fun f => hout (.func f) rfl
              clear hdep hout
              refine .inl ⟨?_, ?_⟩
              · show (y 10 == some false) = true
                rw [yg]; rfl
              obtain ⟨_, cc0, cc1, cc2, cc3, cc4, _⟩ := (P1.out.later hBx).box
              show GivesP _ _ _ (fun v _ => v = .agg #[.bool a1, .slice p1 n1 cap1, .bool c1, .int .i64 l1, .int .i64 u1]) _
              refine GivesP.val (.agg #[.bool a1, .slice p1 n1 cap1, .bool c1, .int .i64 l1, .int .i64 u1]) rfl ?_
              go_simp
            rcases i with _ | i
            · obtain rfl := Option.some.inj ho
              have e11 : ρ (.tmp 69) = .agg #[.bool a2, .slice p2 n2 cap2, .bool c2, .int .i64 l2, .int .i64 u2] := (hdep ⟨11, .data⟩ (by simp) rfl 69 rfl).1
              have e12 : ρ (.tmp 70) = .agg #[.bool a1, .slice p1 n1 cap1, .bool c1, .int .i64 l1, .int .i64 u1] := (hdep ⟨12, .data⟩ (by simp) rfl 70 rfl).1
              have eg : ρ (.tmp 68) = .bool false := (hdep ⟨10, .guard⟩ (by simp) rfl 68 rfl).1
              have yg : y 10 = some false := (hdep ⟨10, .guard⟩ (by simp) rfl 68 rfl).2.trans (by rw [eg]; rfl)
              have ocn : ∀ v, ρ (.const v) = v := fun v => hout (.const v) rfl
              have ofn : ∀ f, ρ (.func f) = .func (.func f) #[] #[] := fun f => hout (.func f) rfl
              clear hdep hout
              refine .inl ⟨?_, ?_⟩
              · show (y 10 == some false) = true
                rw [yg]; rfl
              show GivesP _ _ _ (fun v x => StV (ra, rL, rc, rl, ru) v x) _
              refine GivesP.call ((stJoin_impl x true true _ _ _ _ _ _ L2 _ _ _ _ _ L1 _ _ _ (P2.out.later hBx).row (P1.out.later hBx).row).mono fun e w9 h9 => stV_of h9 HF.out.2.2.2) ?_
              go_simp
            rcases i with _ | i
            · obtain rfl := Option.some.inj ho
              have o9 : ρ (.tmp 9) = Value.pointer (some { block := x5.heap.size, off := 0 }) := hout (.tmp 9) rfl
              have eg : ρ (.tmp 68) = .bool false := (hdep ⟨10, .guard⟩ (by simp) rfl 68 rfl).1
              have yg : y 10 = some false := (hdep ⟨10, .guard⟩ (by simp) rfl 68 rfl).2.trans (by rw [eg]; rfl)
              have ocn : ∀ v, ρ (.const v) = v := fun v => hout (.const v) rfl
              have ofn : ∀ f, ρ (.func f) = .func (.func f) #[] #[] := fun f => hout (.func f) rfl
              clear hdep hout
              refine .inl ⟨?_, ?_⟩
              · show (y 10 == some false) = true
                rw [yg]; rfl
              obtain ⟨_, cc0, cc1, cc2, cc3, cc4, _⟩ := (P5.out.later hBx).box
              show GivesP _ _ _ (fun v _ => v = .agg #[.bool ra, .slice p5 n5 cap5, .bool rc, .int .i64 rl, .int .i64 ru]) _
              refine GivesP.val (.agg #[.bool ra, .slice p5 n5 cap5, .bool rc, .int .i64 rl, .int .i64 ru]) rfl ?_
              go_simp
            rcases i with _ | i
            · obtain rfl := Option.some.inj ho
              have t13 : StV (ra, rL, rc, rl, ru) (ρ (.tmp 71)) x := (hdep ⟨13, .data⟩ (by simp) rfl 71 rfl).1
              obtain ⟨q13, k13, B13, E13, e13, s13⟩ := t13
              have e14 : ρ (.tmp 72) = .agg #[.bool ra, .slice p5 n5 cap5, .bool rc, .int .i64 rl, .int .i64 ru] := (hdep ⟨14, .data⟩ (by simp) rfl 72 rfl).1
              have eg : ρ (.tmp 68) = .bool false := (hdep ⟨10, .guard⟩ (by simp) rfl 68 rfl).1
              have yg : y 10 = some false := (hdep ⟨10, .guard⟩ (by simp) rfl 68 rfl).2.trans (by rw [eg]; rfl)
              have ocn : ∀ v, ρ (.const v) = v := fun v => hout (.const v) rfl
              have ofn : ∀ f, ρ (.func f) = .func (.func f) #[] #[] := fun f => hout (.func f) rfl
              clear hdep hout
              refine .inl ⟨?_, ?_⟩
              · show (y 10 == some false) = true
                rw [yg]; rfl
              show GivesP _ _ _ (fun v _ => v = .bool true) _
              refine GivesP.call ((lgState_same x true true _ _ _ _ ra _ _ rL rc rl ru s13 (P5.out.later hBx).row).mono fun e w9 h9 => ⟨_, h9.1, rfl, h9.2⟩) ?_
              go_simp
            rcases i with _ | i
            · obtain rfl := Option.some.inj ho
              have e15 : ρ (.tmp 73) = .bool true := (hdep ⟨15, .data⟩ (by simp) rfl 73 rfl).1
              have eg : ρ (.tmp 68) = .bool false := (hdep ⟨10, .guard⟩ (by simp) rfl 68 rfl).1
              have yg : y 10 = some false := (hdep ⟨10, .guard⟩ (by simp) rfl 68 rfl).2.trans (by rw [eg]; rfl)
              have ocn : ∀ v, ρ (.const v) = v := fun v => hout (.const v) rfl
              have ofn : ∀ f, ρ (.func f) = .func (.func f) #[] #[] := fun f => hout (.func f) rfl
              clear hdep hout
              refine .inl ⟨?_, ?_⟩
              · show (y 10 == some false) = true
                rw [yg]; rfl
              show GivesP _ _ _ (fun v _ => v = .bool false) _
              refine GivesP.val (.bool false) rfl ?_
              go_simp
            rcases i with _ | i
            · obtain rfl := Option.some.inj ho
              have e10 : ρ (.tmp 68) = .bool false := (hdep ⟨10, .data⟩ (by simp) rfl 68 rfl).1
              have e16 : ρ (.tmp 74) = .bool false := (hdep ⟨16, .data⟩ (by simp) rfl 74 rfl).1
              have ocn : ∀ v, ρ (.const v) = v := fun v => hout (.const v) rfl
              have ofn : ∀ f, ρ (.func f) = .func (.func f) #[] #[] := fun f => hout (.func f) rfl
              clear hdep hout
              refine .inl ⟨?_, ?_⟩
              · rfl
              show GivesP _ _ _ (fun v _ => v = .bool false) _
              refine GivesP.val (.bool false) rfl ?_
              go_simp
            rcases i with _ | i
            · obtain rfl := Option.some.inj ho
              have e17 : ρ (.tmp 75) = .bool false := (hdep ⟨17, .data⟩ (by simp) rfl 75 rfl).1
              have ocn : ∀ v, ρ (.const v) = v := fun v => hout (.const v) rfl
              have ofn : ∀ f, ρ (.func f) = .func (.func f) #[] #[] := fun f => hout (.func f) rfl
              clear hdep hout
              refine .inl ⟨?_, ?_⟩
              · rfl
              show GivesP _ _ _ (fun v _ => v = .bool false) _
              refine GivesP.val (.bool false) rfl ?_
              go_simp
            rcases i with _ | i
            · obtain rfl := Option.some.inj ho
              have o5 : ρ (.tmp 5) = Value.pointer (some { block := x1.heap.size, off := 0 }) := hout (.tmp 5) rfl
              have eg : ρ (.tmp 76) = .bool false := (hdep ⟨18, .guard⟩ (by simp) rfl 76 rfl).1
              have yg : y 18 = some false := (hdep ⟨18, .guard⟩ (by simp) rfl 76 rfl).2.trans (by rw [eg]; rfl)
              have ocn : ∀ v, ρ (.const v) = v := fun v => hout (.const v) rfl
              have ofn : ∀ f, ρ (.func f) = .func (.func f) #[] #[] := fun f => hout (.func f) rfl
              clear hdep hout
              refine .inl ⟨?_, ?_⟩
              · show (y 18 == some false) = true
                rw [yg]; rfl
              obtain ⟨_, cc0, cc1, cc2, cc3, cc4, _⟩ := (P1.out.later hBx).box
              show GivesP _ _ _ (fun v _ => v = .agg #[.bool a1, .slice p1 n1 cap1, .bool c1, .int .i64 l1, .int .i64 u1]) _
              refine GivesP.val (.agg #[.bool a1, .slice p1 n1 cap1, .bool c1, .int .i64 l1, .int .i64 u1]) rfl ?_
              go_simp
            rcases i with _ | i
            · obtain rfl := Option.some.inj ho
              have eg : ρ (.tmp 76) = .bool false := (hdep ⟨18, .guard⟩ (by simp) rfl 76 rfl).1
              have yg : y 18 = some false := (hdep ⟨18, .guard⟩ (by simp) rfl 76 rfl).2.trans (by rw [eg]; rfl)
              have ocn : ∀ v, ρ (.const v) = v := fun v => hout (.const v) rfl
              have ofn : ∀ f, ρ (.func f) = .func (.func f) #[] #[] := fun f => hout (.func f) rfl
              clear hdep hout
              refine .inl ⟨?_, ?_⟩
              · show (y 18 == some false) = true
                rw [yg]; rfl
              show GivesP _ _ _ (fun v _ => v = .agg #[.bool false, .slice none 0 0, .bool false, .int .i64 0, .int .i64 0]) _
              refine GivesP.val (.agg #[.bool false, .slice none 0 0, .bool false, .int .i64 0, .int .i64 0]) rfl ?_
              go_simp
            rcases i with _ | i
            · obtain rfl := Option.some.inj ho
              have e19 : ρ (.tmp 77) = .agg #[.bool a1, .slice p1 n1 cap1, .bool c1, .int .i64 l1, .int .i64 u1] := (hdep ⟨19, .data⟩ (by simp) rfl 77 rfl).1
              have e20 : ρ (.tmp 78) = .agg #[.bool false, .slice none 0 0, .bool false, .int .i64 0, .int .i64 0] := (hdep ⟨20, .data⟩ (by simp) rfl 78 rfl).1
              have eg : ρ (.tmp 76) = .bool false := (hdep ⟨18, .guard⟩ (by simp) rfl 76 rfl).1
              have yg : y 18 = some false := (hdep ⟨18, .guard⟩ (by simp) rfl 76 rfl).2.trans (by rw [eg]; rfl)
              have ocn : ∀ v, ρ (.const v) = v := fun v => hout (.const v) rfl
              have ofn : ∀ f, ρ (.func f) = .func (.func f) #[] #[] := fun f => hout (.func f) rfl
              clear hdep hout
              refine .inl ⟨?_, ?_⟩
              · show (y 18 == some false) = true
                rw [yg]; rfl
              show GivesP _ _ _ (fun v x => StV (a1, L1, c1, l1, u1) v x) _
              refine GivesP.call ((stJoin_impl x true true _ _ 0 0 _ _ L1 _ _ _ _ _ [] _ _ _ (P1.out.later hBx).row (SpsAt.nil (p := none) (cap := 0))).mono fun e w9 h9 => stV_of h9 HN0.out) ?_
              go_simp
            rcases i with _ | i
            · obtain rfl := Option.some.inj ho
              have o5 : ρ (.tmp 5) = Value.pointer (some { block := x1.heap.size, off := 0 }) := hout (.tmp 5) rfl
              have eg : ρ (.tmp 76) = .bool false := (hdep ⟨18, .guard⟩ (by simp) rfl 76 rfl).1
              have yg : y 18 = some false := (hdep ⟨18, .guard⟩ (by simp) rfl 76 rfl).2.trans (by rw [eg]; rfl)
              have ocn : ∀ v, ρ (.const v) = v := fun v => hout (.const v) rfl
              have ofn : ∀ f, ρ (.func f) = .func (.func f) #[] #[] := fun f => hout (.func f) rfl
              clear hdep hout
              refine .inl ⟨?_, ?_⟩
              · show (y 18 == some false) = true
                rw [yg]; rfl
              obtain ⟨_, cc0, cc1, cc2, cc3, cc4, _⟩ := (P1.out.later hBx).box
              show GivesP _ _ _ (fun v _ => v = .agg #[.bool a1, .slice p1 n1 cap1, .bool c1, .int .i64 l1, .int .i64 u1]) _
              refine GivesP.val (.agg #[.bool a1, .slice p1 n1 cap1, .bool c1, .int .i64 l1, .int .i64 u1]) rfl ?_
              go_simp
            rcases i with _ | i
            · obtain rfl := Option.some.inj ho
              have t21 : StV (a1, L1, c1, l1, u1) (ρ (.tmp 79)) x := (hdep ⟨21, .data⟩ (by simp) rfl 79 rfl).1
              obtain ⟨q21, k21, B21, E21, e21, s21⟩ := t21
              have e22 : ρ (.tmp 80) = .agg #[.bool a1, .slice p1 n1 cap1, .bool c1, .int .i64 l1, .int .i64 u1] := (hdep ⟨22, .data⟩ (by simp) rfl 80 rfl).1
              have eg : ρ (.tmp 76) = .bool false := (hdep ⟨18, .guard⟩ (by simp) rfl 76 rfl).1
              have yg : y 18 = some false := (hdep ⟨18, .guard⟩ (by simp) rfl 76 rfl).2.trans (by rw [eg]; rfl)
              have ocn : ∀ v, ρ (.const v) = v := fun v => hout (.const v) rfl
              have ofn : ∀ f, ρ (.func f) = .func (.func f) #[] #[] := fun f => hout (.func f) rfl
              clear hdep hout
              refine .inl ⟨?_, ?_⟩
              · show (y 18 == some false) = true
                rw [yg]; rfl
              show GivesP _ _ _ (fun v _ => v = .bool true) _
              refine GivesP.call ((lgState_same x true true _ _ _ _ a1 _ _ L1 c1 l1 u1 s21 (P1.out.later hBx).row).mono fun e w9 h9 => ⟨_, h9.1, rfl, h9.2⟩) ?_
              go_simp
            rcases i with _ | i
            · obtain rfl := Option.some.inj ho
              have e23 : ρ (.tmp 81) = .bool true := (hdep ⟨23, .data⟩ (by simp) rfl 81 rfl).1
              have eg : ρ (.tmp 76) = .bool false := (hdep ⟨18, .guard⟩ (by simp) rfl 76 rfl).1
              have yg : y 18 = some false := (hdep ⟨18, .guard⟩ (by simp) rfl 76 rfl).2.trans (by rw [eg]; rfl)
              have ocn : ∀ v, ρ (.const v) = v := fun v => hout (.const v) rfl
              have ofn : ∀ f, ρ (.func f) = .func (.func f) #[] #[] := fun f => hout (.func f) rfl
              clear hdep hout
              refine .inl ⟨?_, ?_⟩
              · show (y 18 == some false) = true
                rw [yg]; rfl
              show GivesP _ _ _ (fun v _ => v = .bool false) _
              refine GivesP.val (.bool false) rfl ?_
              go_simp
            rcases i with _ | i
            · obtain rfl := Option.some.inj ho
              have e18 : ρ (.tmp 76) = .bool false := (hdep ⟨18, .data⟩ (by simp) rfl 76 rfl).1
              have e24 : ρ (.tmp 82) = .bool false := (hdep ⟨24, .data⟩ (by simp) rfl 82 rfl).1
              have ocn : ∀ v, ρ (.const v) = v := fun v => hout (.const v) rfl
              have ofn : ∀ f, ρ (.func f) = .func (.func f) #[] #[] := fun f => hout (.func f) rfl
              clear hdep hout
              refine .inl ⟨?_, ?_⟩
              · rfl
              show GivesP _ _ _ (fun v _ => v = .bool false) _
              refine GivesP.val (.bool false) rfl ?_
              go_simp
            cases ho
          case fin =>
            intro V x hBx hV
            have ev : V 25 = .bool false := hV 25 (by simp)
            clear hV
            go_wp2_with fail
            go_meet
            exact ⟨ev, HB.out.trans (hBx.mono HB.out.size), P1.out.later hBx, P2.out.later hBx, P3.out.later hBx, P5.out.later hBx⟩
        case rest =>
        rename World => z8
        clear HB P1 P2 P3 P5
        obtain ⟨rfl, HB, P1, P2, P3, P5⟩ := hcut
        obtain ⟨⟨ba, bL, bc, bl, bu⟩, hbg⟩ : ∃ r, stJ ra rL (rc, rl, ru) a3 L3 (c3, l3, u3) = r := ⟨_, rfl⟩
        obtain ⟨⟨ka, kL, kc, kl, ku⟩, hk⟩ : ∃ r, stJ a2 L2 (c2, l2, u2) a3 L3 (c3, l3, u3) = r := ⟨_, rfl⟩
        have HBG : Hid (stBoth false ra rL (rc, rl, ru) a3 L3 (c3, l3, u3) = (ba, bL, bc, bl, bu)) := hbg
        have HKK : Hid (stBoth false a2 L2 (c2, l2, u2) a3 L3 (c3, l3, u3) = (ka, kL, kc, kl, ku)) := hk
        have HAS : Hid (stBoth false a1 L1 (c1, l1, u1) ka kL (kc, kl, ku) = (ba, bL, bc, bl, bu)) := (stJ_assoc HAo.out HBo.out HCo.out HR.out HKK.out).symm.trans HBG.out
        have HFB : Hid (stIn ra rL (rc, rl, ru) ba bL (bc, bl, bu) = true) := (stJ_facts HF.out.1 HCo.out HBG.out).2.1
        have hlb : bL.length ≤ 3 := by have h9 := stBoth_len false ra rL (rc, rl, ru) a3 L3 (c3, l3, u3); rw [HBG.out] at h9; exact h9
        clear hbg hk
        obtain ⟨_, P1_0, P1_1, P1_2, P1_3, P1_4, _⟩ := P1.out.box
        obtain ⟨_, P2_0, P2_1, P2_2, P2_3, P2_4, _⟩ := P2.out.box
        obtain ⟨_, P3_0, P3_1, P3_2, P3_3, P3_4, _⟩ := P3.out.box
        obtain ⟨_, P5_0, P5_1, P5_2, P5_3, P5_4, _⟩ := P5.out.box
        go_wp2_with fail
        clear P1_0 P1_1 P1_2 P1_3 P1_4 P2_0 P2_1 P2_2 P2_3 P2_4 P3_0 P3_1 P3_2 P3_3 P3_4 P5_0 P5_1 P5_2 P5_3 P5_4
        refine (stJoin_impl _ true true _ _ _ _ _ _ rL _ _ _ _ _ L3 _ _ _ P5.out.row P3.out.row).mono ?_
        rintro e x6 ⟨v6, rfl, hs6, hb⟩
        rw [HBG.out] at hs6 ⊢
        replace HB : Hid (Below w.heap.size w x6) := HB.out.trans (hb.mono HB.out.size)
        replace P1 : Hid (Pr x6 w.heap.size x1.heap.size x1.heap.size a1 p1 n1 cap1 c1 l1 u1 L1) := P1.out.later hb
        replace P2 : Hid (Pr x6 w.heap.size x1.heap.size (x1.heap.size + 1) a2 p2 n2 cap2 c2 l2 u2 L2) := P2.out.later hb
        replace P3 : Hid (Pr x6 y1.heap.size x3.heap.size x3.heap.size a3 p3 n3 cap3 c3 l3 u3 L3) := P3.out.later hb
        replace P5 : Hid (Pr x6 y3.heap.size x5.heap.size x5.heap.size ra p5 n5 cap5 rc rl ru rL) := P5.out.later hb
        clear hb
        obtain ⟨p6, cap6, hv6⟩ := hs6.shape
        simp only at hv6 hs6
        generalize hq6 : bL.length = n6 at hv6 hlb
        subst hv6
        have HQ6 : Hid (bL.length = n6 ∧ bL.length ≤ 1000) := ⟨hq6, by omega⟩
        clear hq6
        have hA : Below x6.heap.size x6 (x6.alloc (.cells #[.bool ba, .slice p6 n6 cap6, .bool bc, .int .i64 bl, .int .i64 bu] 31)) := (Below.refl _ _).alloc (Nat.le_refl _) _
        have P6 := Pr.made (a := ba) (c := bc) (l := bl) (u := bu) 31 hs6
        replace P6 : Hid (Pr (x6.alloc (.cells #[.bool ba, .slice p6 n6 cap6, .bool bc, .int .i64 bl, .int .i64 bu] 31)) z8.heap.size x6.heap.size x6.heap.size ba p6 n6 cap6 bc bl bu bL) := P6
        replace HB : Hid (Below w.heap.size w (x6.alloc (.cells #[.bool ba, .slice p6 n6 cap6, .bool bc, .int .i64 bl, .int .i64 bu] 31))) := HB.out.trans (hA.mono HB.out.size)
        replace P1 : Hid (Pr (x6.alloc (.cells #[.bool ba, .slice p6 n6 cap6, .bool bc, .int .i64 bl, .int .i64 bu] 31)) w.heap.size x1.heap.size x1.heap.size a1 p1 n1 cap1 c1 l1 u1 L1) := P1.out.later hA
        replace P2 : Hid (Pr (x6.alloc (.cells #[.bool ba, .slice p6 n6 cap6, .bool bc, .int .i64 bl, .int .i64 bu] 31)) w.heap.size x1.heap.size (x1.heap.size + 1) a2 p2 n2 cap2 c2 l2 u2 L2) := P2.out.later hA
        replace P3 : Hid (Pr (x6.alloc (.cells #[.bool ba, .slice p6 n6 cap6, .bool bc, .int .i64 bl, .int .i64 bu] 31)) y1.heap.size x3.heap.size x3.heap.size a3 p3 n3 cap3 c3 l3 u3 L3) := P3.out.later hA
        replace P5 : Hid (Pr (x6.alloc (.cells #[.bool ba, .slice p6 n6 cap6, .bool bc, .int .i64 bl, .int .i64 bu] 31)) y3.heap.size x5.heap.size x5.heap.size ra p5 n5 cap5 rc rl ru rL) := P5.out.later hA
        clear hA hs6
        obtain ⟨_, P1_0, P1_1, P1_2, P1_3, P1_4, _⟩ := P1.out.box
        obtain ⟨_, P2_0, P2_1, P2_2, P2_3, P2_4, _⟩ := P2.out.box
        obtain ⟨_, P3_0, P3_1, P3_2, P3_3, P3_4, _⟩ := P3.out.box
        obtain ⟨_, P5_0, P5_1, P5_2, P5_3, P5_4, _⟩ := P5.out.box
        obtain ⟨_, P6_0, P6_1, P6_2, P6_3, P6_4, _⟩ := P6.out.box
        go_wp2_with fail
        clear P1_0 P1_1 P1_2 P1_3 P1_4 P2_0 P2_1 P2_2 P2_3 P2_4 P3_0 P3_1 P3_2 P3_3 P3_4 P5_0 P5_1 P5_2 P5_3 P5_4 P6_0 P6_1 P6_2 P6_3 P6_4
        generalize x6.alloc (.cells #[.bool ba, .slice p6 n6 cap6, .bool bc, .int .i64 bl, .int .i64 bu] 31) = y6 at HB P1 P2 P3 P5 P6 ⊢
        cases hg1 : stIn a1 L1 (c1, l1, u1) a3 L3 (c3, l3, u3)
        · skip
          have HG1 : Hid (stIn a1 L1 (c1, l1, u1) a3 L3 (c3, l3, u3) = false) := hg1
          clear hg1
          go_cut [4] (fun s y => s = .bool true ∧ Hid (Below w.heap.size w y) ∧ Hid (Pr y w.heap.size x1.heap.size x1.heap.size a1 p1 n1 cap1 c1 l1 u1 L1) ∧ Hid (Pr y w.heap.size x1.heap.size (x1.heap.size + 1) a2 p2 n2 cap2 c2 l2 u2 L2) ∧ Hid (Pr y y1.heap.size x3.heap.size x3.heap.size a3 p3 n3 cap3 c3 l3 u3 L3) ∧ Hid (Pr y y3.heap.size x5.heap.size x5.heap.size ra p5 n5 cap5 rc rl ru rL) ∧ Hid (Pr y z8.heap.size x6.heap.size x6.heap.size ba p6 n6 cap6 bc bl bu bL))
          case first =>
            have hBd : Below y6.heap.size y6 y6.drew := (Below.refl _ _).drew
            refine wp_region_preds (by kernel_rfl) (by kernel_rfl) (by kernel_rfl) (by kernel_rfl) (fun j => [(fun v _ => v = .agg #[.bool ra, .slice p5 n5 cap5, .bool rc, .int .i64 rl, .int .i64 ru]), (fun v _ => v = .agg #[.bool ba, .slice p6 n6 cap6, .bool bc, .int .i64 bl, .int .i64 bu]), (fun v _ => v = .bool true), (fun v _ => v = .bool true), (fun v _ => v = .agg #[.bool ba, .slice p6 n6 cap6, .bool bc, .int .i64 bl, .int .i64 bu]), (fun v _ => v = .agg #[.bool a1, .slice p1 n1 cap1, .bool c1, .int .i64 l1, .int .i64 u1]), (fun v _ => v = .agg #[.bool a2, .slice p2 n2 cap2, .bool c2, .int .i64 l2, .int .i64 u2]), (fun v _ => v = .agg #[.bool a3, .slice p3 n3 cap3, .bool c3, .int .i64 l3, .int .i64 u3]), (fun v x => StV (ka, kL, kc, kl, ku) v x), (fun v x => StV (ba, bL, bc, bl, bu) v x), (fun v _ => v = .bool true), (fun v _ => v = .bool true), (fun v _ => v = .bool true), (fun v _ => v = .agg #[.bool a1, .slice p1 n1 cap1, .bool c1, .int .i64 l1, .int .i64 u1]), (fun v _ => v = .agg #[.bool a3, .slice p3 n3 cap3, .bool c3, .int .i64 l3, .int .i64 u3]), (fun v _ => v = .bool false), (fun v _ => v = .bool false), (fun v _ => v = undef), (fun v _ => v = undef), (fun v _ => v = undef), (fun v _ => v = .bool false), (fun v _ => v = .bool true), (fun v _ => v = .bool true), (fun v _ => v = undef), (fun v _ => v = undef), (fun v _ => v = undef), (fun v _ => v = .bool true), (fun v _ => v = .bool true), (fun v _ => v = .bool true)].getD j (fun _ _ => True)) ?stable y6 hBd ?step (fun V => ⟨List.toArray ((Value.slice a len cap) :: (Value.slice b lenb capb) :: (undef) :: (undef) :: (V 28) :: (Value.pointer (some { block := x1.heap.size, off := 0 })) :: (Value.pointer (some { block := x1.heap.size + 1, off := 0 })) :: (Value.pointer (some { block := x3.heap.size, off := 0 })) :: (u8) :: (Value.pointer (some { block := x5.heap.size, off := 0 })) :: (Value.pointer (some { block := x6.heap.size, off := 0 })) :: (u11) :: (u12) :: (u13) :: (u14) :: (u15) :: (u16) :: (u17) :: (u18) :: (u19) :: (u20) :: (u21) :: (u22) :: (u23) :: (u24) :: (u25) :: (u26) :: (u27) :: (u28) :: (u29) :: (u30) :: (u31) :: (u32) :: (u33) :: (u34) :: (u35) :: (u36) :: (u37) :: (u38) :: (u39) :: (u40) :: (u41) :: (u42) :: (u43) :: (u44) :: (u45) :: (u46) :: (u47) :: (u48) :: (u49) :: (u50) :: (u51) :: (u52) :: (u53) :: (u54) :: (u55) :: (u56) :: (u57) :: (u58) :: (u59) :: (u60) :: (u61) :: (u62) :: (u63) :: (u64) :: (u65) :: (u66) :: (u67) :: (u68) :: (u69) :: (u70) :: (u71) :: (u72) :: (u73) :: (u74) :: (u75) :: (u76) :: (u77) :: (u78) :: (u79) :: (u80) :: (u81) :: (u82) :: (Value.bool false) :: (Value.agg #[Value.bool ra, Value.slice p5 n5 cap5, Value.bool rc, Value.int IntKind.i64 rl, Value.int IntKind.i64 ru]) :: (Value.agg #[Value.bool a3, Value.slice p3 n3 cap3, Value.bool c3, Value.int IntKind.i64 l3, Value.int IntKind.i64 u3]) :: (Value.agg #[Value.bool ba, Value.slice p6 n6 cap6, Value.bool bc, Value.int IntKind.i64 bl, Value.int IntKind.i64 bu]) :: (V 0) :: (V 1) :: (V 2) :: (V 3) :: (V 4) :: (V 5) :: (V 6) :: (V 7) :: (V 8) :: (V 9) :: (V 10) :: (V 11) :: (V 12) :: (V 13) :: (V 14) :: (V 15) :: (V 16) :: (V 17) :: (V 18) :: (V 19) :: (V 20) :: (V 21) :: (V 22) :: (V 23) :: (V 24) :: (V 25) :: (V 26) :: (V 27) :: []), []⟩) (fun V => by kernel_rfl) ?fin
            case stable =>
              intro i v x y ht hb
              rcases i with _ | i
              · exact ht
              rcases i with _ | i
              · exact ht
              rcases i with _ | i
              · exact ht
              rcases i with _ | i
              · exact ht
              rcases i with _ | i
              · exact ht
              rcases i with _ | i
              · exact ht
              rcases i with _ | i
              · exact ht
              rcases i with _ | i
              · exact ht
              rcases i with _ | i
              · exact StV.later ht hb
              rcases i with _ | i
              · exact StV.later ht hb
              rcases i with _ | i
              · exact ht
              rcases i with _ | i
              · exact ht
              rcases i with _ | i
              · exact ht
              rcases i with _ | i
              · exact ht
              rcases i with _ | i
              · exact ht
              rcases i with _ | i
              · exact ht
              rcases i with _ | i
              · exact ht
              rcases i with _ | i
              · exact ht
              rcases i with _ | i
              · exact ht
              rcases i with _ | i
              · exact ht
              rcases i with _ | i
              · exact ht
              rcases i with _ | i
              · exact ht
              rcases i with _ | i
              · exact ht
              rcases i with _ | i
              · exact ht
              rcases i with _ | i
              · exact ht
              rcases i with _ | i
              · exact ht
              rcases i with _ | i
              · exact ht
              rcases i with _ | i
              · exact ht
              rcases i with _ | i
              · exact ht
              exact trivial
            case step =>
              intro i o ho ρ y x hBx hdep hout
              rcases i with _ | i
              · obtain rfl := Option.some.inj ho
                have o9 : ρ (.tmp 9) = Value.pointer (some { block := x5.heap.size, off := 0 }) := hout (.tmp 9) rfl
                have ocn : ∀ v, ρ (.const v) = v := fun v => hout (.const v) rfl
                have ofn : ∀ f, ρ (.func f) = .func (.func f) #[] #[] := fun f => hout (.func f) rfl
                clear hdep hout
                refine .inl ⟨?_, ?_⟩
                · rfl
                obtain ⟨_, cc0, cc1, cc2, cc3, cc4, _⟩ := (P5.out.later hBx).box
                show GivesP _ _ _ (fun v _ => v = .agg #[.bool ra, .slice p5 n5 cap5, .bool rc, .int .i64 rl, .int .i64 ru]) _
                refine GivesP.val (.agg #[.bool ra, .slice p5 n5 cap5, .bool rc, .int .i64 rl, .int .i64 ru]) rfl ?_
                go_simp
              rcases i with _ | i
              · obtain rfl := Option.some.inj ho
                have o10 : ρ (.tmp 10) = Value.pointer (some { block := x6.heap.size, off := 0 }) := hout (.tmp 10) rfl
                have ocn : ∀ v, ρ (.const v) = v := fun v => hout (.const v) rfl
                have ofn : ∀ f, ρ (.func f) = .func (.func f) #[] #[] := fun f => hout (.func f) rfl
                clear hdep hout
                refine .inl ⟨?_, ?_⟩
                · rfl
                obtain ⟨_, cc0, cc1, cc2, cc3, cc4, _⟩ := (P6.out.later hBx).box
                show GivesP _ _ _ (fun v _ => v = .agg #[.bool ba, .slice p6 n6 cap6, .bool bc, .int .i64 bl, .int .i64 bu]) _
                refine GivesP.val (.agg #[.bool ba, .slice p6 n6 cap6, .bool bc, .int .i64 bl, .int .i64 bu]) rfl ?_
                go_simp
              rcases i with _ | i
              · obtain rfl := Option.some.inj ho
                have e0 : ρ (.tmp 87) = .agg #[.bool ra, .slice p5 n5 cap5, .bool rc, .int .i64 rl, .int .i64 ru] := (hdep ⟨0, .data⟩ (by simp) rfl 87 rfl).1
                have e1 : ρ (.tmp 88) = .agg #[.bool ba, .slice p6 n6 cap6, .bool bc, .int .i64 bl, .int .i64 bu] := (hdep ⟨1, .data⟩ (by simp) rfl 88 rfl).1
                have ocn : ∀ v, ρ (.const v) = v := fun v => hout (.const v) rfl
                have ofn : ∀ f, ρ (.func f) = .func (.func f) #[] #[] := fun f => hout (.func f) rfl
                clear hdep hout
                refine .inl ⟨?_, ?_⟩
                · rfl
                show GivesP _ _ _ (fun v _ => v = .bool true) _
                refine GivesP.call ((stIn_impl x true true _ _ _ _ _ _ rL _ _ _ _ _ bL _ _ _ (P5.out.later hBx).row (P6.out.later hBx).row).mono fun e w9 h9 => ⟨_, h9.1, by rw [HFB.out], h9.2⟩) ?_
                go_simp
              rcases i with _ | i
              · obtain rfl := Option.some.inj ho
                have e2 : ρ (.tmp 89) = .bool true := (hdep ⟨2, .data⟩ (by simp) rfl 89 rfl).1
                have ocn : ∀ v, ρ (.const v) = v := fun v => hout (.const v) rfl
                have ofn : ∀ f, ρ (.func f) = .func (.func f) #[] #[] := fun f => hout (.func f) rfl
                clear hdep hout
                refine .inl ⟨?_, ?_⟩
                · rfl
                show GivesP _ _ _ (fun v _ => v = .bool true) _
                refine GivesP.val (.bool true) rfl ?_
                go_simp
              rcases i with _ | i
              · obtain rfl := Option.some.inj ho
                have o10 : ρ (.tmp 10) = Value.pointer (some { block := x6.heap.size, off := 0 }) := hout (.tmp 10) rfl
                have eg : ρ (.tmp 90) = .bool true := (hdep ⟨3, .guard⟩ (by simp) rfl 90 rfl).1
                have yg : y 3 = some true := (hdep ⟨3, .guard⟩ (by simp) rfl 90 rfl).2.trans (by rw [eg]; rfl)
                have ocn : ∀ v, ρ (.const v) = v := fun v => hout (.const v) rfl
                have ofn : ∀ f, ρ (.func f) = .func (.func f) #[] #[] := fun f => hout (.func f) rfl
                clear hdep hout
                refine .inl ⟨?_, ?_⟩
                · show (y 3 == some true) = true
                  rw [yg]; rfl
                obtain ⟨_, cc0, cc1, cc2, cc3, cc4, _⟩ := (P6.out.later hBx).box
                show GivesP _ _ _ (fun v _ => v = .agg #[.bool ba, .slice p6 n6 cap6, .bool bc, .int .i64 bl, .int .i64 bu]) _
                refine GivesP.val (.agg #[.bool ba, .slice p6 n6 cap6, .bool bc, .int .i64 bl, .int .i64 bu]) rfl ?_
                go_simp
              rcases i with _ | i
              · obtain rfl := Option.some.inj ho
                have o5 : ρ (.tmp 5) = Value.pointer (some { block := x1.heap.size, off := 0 }) := hout (.tmp 5) rfl
                have eg : ρ (.tmp 90) = .bool true := (hdep ⟨3, .guard⟩ (by simp) rfl 90 rfl).1
                have yg : y 3 = some true := (hdep ⟨3, .guard⟩ (by simp) rfl 90 rfl).2.trans (by rw [eg]; rfl)
                have ocn : ∀ v, ρ (.const v) = v := fun v => hout (.const v) rfl
                have ofn : ∀ f, ρ (.func f) = .func (.func f) #[] #[] := fun f => hout (.func f) rfl
                clear hdep hout
                refine .inl ⟨?_, ?_⟩
                · show (y 3 == some true) = true
                  rw [yg]; rfl
                obtain ⟨_, cc0, cc1, cc2, cc3, cc4, _⟩ := (P1.out.later hBx).box
                show GivesP _ _ _ (fun v _ => v = .agg #[.bool a1, .slice p1 n1 cap1, .bool c1, .int .i64 l1, .int .i64 u1]) _
                refine GivesP.val (.agg #[.bool a1, .slice p1 n1 cap1, .bool c1, .int .i64 l1, .int .i64 u1]) rfl ?_
                go_simp
              rcases i with _ | i
              · obtain rfl := Option.some.inj ho
                have o6 : ρ (.tmp 6) = Value.pointer (some { block := x1.heap.size + 1, off := 0 }) := hout (.tmp 6) rfl
                have eg : ρ (.tmp 90) = .bool true := (hdep ⟨3, .guard⟩ (by simp) rfl 90 rfl).1
                have yg : y 3 = some true := (hdep ⟨3, .guard⟩ (by simp) rfl 90 rfl).2.trans (by rw [eg]; rfl)
                have ocn : ∀ v, ρ (.const v) = v := fun v => hout (.const v) rfl
                have ofn : ∀ f, ρ (.func f) = .func (.func f) #[] #[] := fun f => hout (.func f) rfl
                clear hdep hout
                refine .inl ⟨?_, ?_⟩
                · show (y 3 == some true) = true
                  rw [yg]; rfl
                obtain ⟨_, cc0, cc1, cc2, cc3, cc4, _⟩ := (P2.out.later hBx).box
                show GivesP _ _ _ (fun v _ => v = .agg #[.bool a2, .slice p2 n2 cap2, .bool c2, .int .i64 l2, .int .i64 u2]) _
                refine GivesP.val (.agg #[.bool a2, .slice p2 n2 cap2, .bool c2, .int .i64 l2, .int .i64 u2]) rfl ?_
                go_simp
              rcases i with _ | i
              · obtain rfl := Option.some.inj ho
                have o7 : ρ (.tmp 7) = Value.pointer (some { block := x3.heap.size, off := 0 }) := hout (.tmp 7) rfl
                have eg : ρ (.tmp 90) = .bool true := (hdep ⟨3, .guard⟩ (by simp) rfl 90 rfl).1
                have yg : y 3 = some true := (hdep ⟨3, .guard⟩ (by simp) rfl 90 rfl).2.trans (by rw [eg]; rfl)
                have ocn : ∀ v, ρ (.const v) = v := fun v => hout (.const v) rfl
                have ofn : ∀ f, ρ (.func f) = .func (.func f) #[] #[] := fun f => hout (.func f) rfl
                clear hdep hout
                refine .inl ⟨?_, ?_⟩
                · show (y 3 == some true) = true
                  rw [yg]; rfl
                obtain ⟨_, cc0, cc1, cc2, cc3, cc4, _⟩ := (P3.out.later hBx).box
                show GivesP _ _ _ (fun v _ => v = .agg #[.bool a3, .slice p3 n3 cap3, .bool c3, .int .i64 l3, .int .i64 u3]) _
                refine GivesP.val (.agg #[.bool a3, .slice p3 n3 cap3, .bool c3, .int .i64 l3, .int .i64 u3]) rfl ?_
                go_simp
              rcases i with _ | i
              · obtain rfl := Option.some.inj ho
                have e6 : ρ (.tmp 93) = .agg #[.bool a2, .slice p2 n2 cap2, .bool c2, .int .i64 l2, .int .i64 u2] := (hdep ⟨6, .data⟩ (by simp) rfl 93 rfl).1
                have e7 : ρ (.tmp 94) = .agg #[.bool a3, .slice p3 n3 cap3, .bool c3, .int .i64 l3, .int .i64 u3] := (hdep ⟨7, .data⟩ (by simp) rfl 94 rfl).1
                have eg : ρ (.tmp 90) = .bool true := (hdep ⟨3, .guard⟩ (by simp) rfl 90 rfl).1
                have yg : y 3 = some true := (hdep ⟨3, .guard⟩ (by simp) rfl 90 rfl).2.trans (by rw [eg]; rfl)
                have ocn : ∀ v, ρ (.const v) = v := fun v => hout (.const v) rfl
                have ofn : ∀ f, ρ (.func f) = .func (.func f) #[] #[] := fun f => hout (.func f) rfl
                clear hdep hout
                refine .inl ⟨?_, ?_⟩
                · show (y 3 == some true) = true
                  rw [yg]; rfl
                show GivesP _ _ _ (fun v x => StV (ka, kL, kc, kl, ku) v x) _
                refine GivesP.call ((stJoin_impl x true true _ _ _ _ _ _ L2 _ _ _ _ _ L3 _ _ _ (P2.out.later hBx).row (P3.out.later hBx).row).mono fun e w9 h9 => stV_of h9 HKK.out) ?_
                go_simp
              rcases i with _ | i
              · obtain rfl := Option.some.inj ho
                have e5 : ρ (.tmp 92) = .agg #[.bool a1, .slice p1 n1 cap1, .bool c1, .int .i64 l1, .int .i64 u1] := (hdep ⟨5, .data⟩ (by simp) rfl 92 rfl).1
                have t8 : StV (ka, kL, kc, kl, ku) (ρ (.tmp 95)) x := (hdep ⟨8, .data⟩ (by simp) rfl 95 rfl).1
                obtain ⟨q8, k8, B8, E8, e8, s8⟩ := t8
                have eg : ρ (.tmp 90) = .bool true := (hdep ⟨3, .guard⟩ (by simp) rfl 90 rfl).1
                have yg : y 3 = some true := (hdep ⟨3, .guard⟩ (by simp) rfl 90 rfl).2.trans (by rw [eg]; rfl)
                have ocn : ∀ v, ρ (.const v) = v := fun v => hout (.const v) rfl
                have ofn : ∀ f, ρ (.func f) = .func (.func f) #[] #[] := fun f => hout (.func f) rfl
                clear hdep hout
                refine .inl ⟨?_, ?_⟩
                · show (y 3 == some true) = true
                  rw [yg]; rfl
                show GivesP _ _ _ (fun v x => StV (ba, bL, bc, bl, bu) v x) _
                refine GivesP.call ((stJoin_impl x true true _ _ _ _ _ _ L1 _ _ _ _ _ kL _ _ _ (P1.out.later hBx).row s8).mono fun e w9 h9 => stV_of h9 HAS.out) ?_
                go_simp
              rcases i with _ | i
              · obtain rfl := Option.some.inj ho
                have e4 : ρ (.tmp 91) = .agg #[.bool ba, .slice p6 n6 cap6, .bool bc, .int .i64 bl, .int .i64 bu] := (hdep ⟨4, .data⟩ (by simp) rfl 91 rfl).1
                have t9 : StV (ba, bL, bc, bl, bu) (ρ (.tmp 96)) x := (hdep ⟨9, .data⟩ (by simp) rfl 96 rfl).1
                obtain ⟨q9, k9, B9, E9, e9, s9⟩ := t9
                have eg : ρ (.tmp 90) = .bool true := (hdep ⟨3, .guard⟩ (by simp) rfl 90 rfl).1
                have yg : y 3 = some true := (hdep ⟨3, .guard⟩ (by simp) rfl 90 rfl).2.trans (by rw [eg]; rfl)
                have ocn : ∀ v, ρ (.const v) = v := fun v => hout (.const v) rfl
                have ofn : ∀ f, ρ (.func f) = .func (.func f) #[] #[] := fun f => hout (.func f) rfl
                clear hdep hout
                refine .inl ⟨?_, ?_⟩
                · show (y 3 == some true) = true
                  rw [yg]; rfl
                show GivesP _ _ _ (fun v _ => v = .bool true) _
                refine GivesP.call ((lgState_same x true true _ _ _ _ ba _ _ bL bc bl bu (P6.out.later hBx).row s9).mono fun e w9 h9 => ⟨_, h9.1, rfl, h9.2⟩) ?_
                go_simp
              rcases i with _ | i
              · obtain rfl := Option.some.inj ho
                have e3 : ρ (.tmp 90) = .bool true := (hdep ⟨3, .data⟩ (by simp) rfl 90 rfl).1
                have e10 : ρ (.tmp 97) = .bool true := (hdep ⟨10, .data⟩ (by simp) rfl 97 rfl).1
                have ocn : ∀ v, ρ (.const v) = v := fun v => hout (.const v) rfl
                have ofn : ∀ f, ρ (.func f) = .func (.func f) #[] #[] := fun f => hout (.func f) rfl
                clear hdep hout
                refine .inl ⟨?_, ?_⟩
                · rfl
                show GivesP _ _ _ (fun v _ => v = .bool true) _
                refine GivesP.val (.bool true) rfl ?_
                go_simp
              rcases i with _ | i
              · obtain rfl := Option.some.inj ho
                have e11 : ρ (.tmp 98) = .bool true := (hdep ⟨11, .data⟩ (by simp) rfl 98 rfl).1
                have ocn : ∀ v, ρ (.const v) = v := fun v => hout (.const v) rfl
                have ofn : ∀ f, ρ (.func f) = .func (.func f) #[] #[] := fun f => hout (.func f) rfl
                clear hdep hout
                refine .inl ⟨?_, ?_⟩
                · rfl
                show GivesP _ _ _ (fun v _ => v = .bool true) _
                refine GivesP.val (.bool true) rfl ?_
                go_simp
              rcases i with _ | i
              · obtain rfl := Option.some.inj ho
                have o5 : ρ (.tmp 5) = Value.pointer (some { block := x1.heap.size, off := 0 }) := hout (.tmp 5) rfl
                have eg : ρ (.tmp 99) = .bool true := (hdep ⟨12, .guard⟩ (by simp) rfl 99 rfl).1
                have yg : y 12 = some true := (hdep ⟨12, .guard⟩ (by simp) rfl 99 rfl).2.trans (by rw [eg]; rfl)
                have ocn : ∀ v, ρ (.const v) = v := fun v => hout (.const v) rfl
                have ofn : ∀ f, ρ (.func f) = .func (.func f) #[] #[] := fun f => hout (.func f) rfl
                clear hdep hout
                refine .inl ⟨?_, ?_⟩
                · show (y 12 == some true) = true
                  rw [yg]; rfl
                obtain ⟨_, cc0, cc1, cc2, cc3, cc4, _⟩ := (P1.out.later hBx).box
                show GivesP _ _ _ (fun v _ => v = .agg #[.bool a1, .slice p1 n1 cap1, .bool c1, .int .i64 l1, .int .i64 u1]) _
                refine GivesP.val (.agg #[.bool a1, .slice p1 n1 cap1, .bool c1, .int .i64 l1, .int .i64 u1]) rfl ?_
                go_simp
              rcases i with _ | i
              · obtain rfl := Option.some.inj ho
                have o7 : ρ (.tmp 7) = Value.pointer (some { block := x3.heap.size, off := 0 }) := hout (.tmp 7) rfl
                have eg : ρ (.tmp 99) = .bool true := (hdep ⟨12, .guard⟩ (by simp) rfl 99 rfl).1
                have yg : y 12 = some true := (hdep ⟨12, .guard⟩ (by simp) rfl 99 rfl).2.trans (by rw [eg]; rfl)
                have ocn : ∀ v, ρ (.const v) = v := fun v => hout (.const v) rfl
                have ofn : ∀ f, ρ (.func f) = .func (.func f) #[] #[] := fun f => hout (.func f) rfl
                clear hdep hout
                refine .inl ⟨?_, ?_⟩
                · show (y 12 == some true) = true
                  rw [yg]; rfl
                obtain ⟨_, cc0, cc1, cc2, cc3, cc4, _⟩ := (P3.out.later hBx).box
                show GivesP _ _ _ (fun v _ => v = .agg #[.bool a3, .slice p3 n3 cap3, .bool c3, .int .i64 l3, .int .i64 u3]) _
                refine GivesP.val (.agg #[.bool a3, .slice p3 n3 cap3, .bool c3, .int .i64 l3, .int .i64 u3]) rfl ?_
                go_simp
              rcases i with _ | i
              · obtain rfl := Option.some.inj ho
                have e13 : ρ (.tmp 100) = .agg #[.bool a1, .slice p1 n1 cap1, .bool c1, .int .i64 l1, .int .i64 u1] := (hdep ⟨13, .data⟩ (by simp) rfl 100 rfl).1
                have e14 : ρ (.tmp 101) = .agg #[.bool a3, .slice p3 n3 cap3, .bool c3, .int .i64 l3, .int .i64 u3] := (hdep ⟨14, .data⟩ (by simp) rfl 101 rfl).1
                have eg : ρ (.tmp 99) = .bool true := (hdep ⟨12, .guard⟩ (by simp) rfl 99 rfl).1
                have yg : y 12 = some true := (hdep ⟨12, .guard⟩ (by simp) rfl 99 rfl).2.trans (by rw [eg]; rfl)
                have ocn : ∀ v, ρ (.const v) = v := fun v => hout (.const v) rfl
                have ofn : ∀ f, ρ (.func f) = .func (.func f) #[] #[] := fun f => hout (.func f) rfl
                clear hdep hout
                refine .inl ⟨?_, ?_⟩
                · show (y 12 == some true) = true
                  rw [yg]; rfl
                show GivesP _ _ _ (fun v _ => v = .bool false) _
                refine GivesP.call ((stIn_impl x true true _ _ _ _ _ _ L1 _ _ _ _ _ L3 _ _ _ (P1.out.later hBx).row (P3.out.later hBx).row).mono fun e w9 h9 => ⟨_, h9.1, by rw [HG1.out], h9.2⟩) ?_
                go_simp
              rcases i with _ | i
              · obtain rfl := Option.some.inj ho
                have e15 : ρ (.tmp 102) = .bool false := (hdep ⟨15, .data⟩ (by simp) rfl 102 rfl).1
                have eg : ρ (.tmp 99) = .bool true := (hdep ⟨12, .guard⟩ (by simp) rfl 99 rfl).1
                have yg : y 12 = some true := (hdep ⟨12, .guard⟩ (by simp) rfl 99 rfl).2.trans (by rw [eg]; rfl)
                have ocn : ∀ v, ρ (.const v) = v := fun v => hout (.const v) rfl
                have ofn : ∀ f, ρ (.func f) = .func (.func f) #[] #[] := fun f => hout (.func f) rfl
                clear hdep hout
                refine .inl ⟨?_, ?_⟩
                · show (y 12 == some true) = true
                  rw [yg]; rfl
                show GivesP _ _ _ (fun v _ => v = .bool false) _
                refine GivesP.val (.bool false) rfl ?_
                go_simp
              rcases i with _ | i
              · obtain rfl := Option.some.inj ho
                have o6 : ρ (.tmp 6) = Value.pointer (some { block := x1.heap.size + 1, off := 0 }) := hout (.tmp 6) rfl
                have eg : ρ (.tmp 103) = .bool false := (hdep ⟨16, .guard⟩ (by simp) rfl 103 rfl).1
                have yg : y 16 = some false := (hdep ⟨16, .guard⟩ (by simp) rfl 103 rfl).2.trans (by rw [eg]; rfl)
                have ocn : ∀ v, ρ (.const v) = v := fun v => hout (.const v) rfl
                have ofn : ∀ f, ρ (.func f) = .func (.func f) #[] #[] := fun f => hout (.func f) rfl
                clear hdep hout
                refine .inr ⟨?_, rfl⟩
                show (y 16 == some true) = false
                rw [yg]; rfl
              rcases i with _ | i
              · obtain rfl := Option.some.inj ho
                have o7 : ρ (.tmp 7) = Value.pointer (some { block := x3.heap.size, off := 0 }) := hout (.tmp 7) rfl
                have eg : ρ (.tmp 103) = .bool false := (hdep ⟨16, .guard⟩ (by simp) rfl 103 rfl).1
                have yg : y 16 = some false := (hdep ⟨16, .guard⟩ (by simp) rfl 103 rfl).2.trans (by rw [eg]; rfl)
                have ocn : ∀ v, ρ (.const v) = v := fun v => hout (.const v) rfl
                have ofn : ∀ f, ρ (.func f) = .func (.func f) #[] #[] := fun f => hout (.func f) rfl
                clear hdep hout
                refine .inr ⟨?_, rfl⟩
                show (y 16 == some true) = false
                rw [yg]; rfl
              rcases i with _ | i
              · obtain rfl := Option.some.inj ho
                have e17 : ρ (.tmp 104) = undef := (hdep ⟨17, .data⟩ (by simp) rfl 104 rfl).1
                have e18 : ρ (.tmp 105) = undef := (hdep ⟨18, .data⟩ (by simp) rfl 105 rfl).1
                have eg : ρ (.tmp 103) = .bool false := (hdep ⟨16, .guard⟩ (by simp) rfl 103 rfl).1
                have yg : y 16 = some false := (hdep ⟨16, .guard⟩ (by simp) rfl 103 rfl).2.trans (by rw [eg]; rfl)
                have ocn : ∀ v, ρ (.const v) = v := fun v => hout (.const v) rfl
                have ofn : ∀ f, ρ (.func f) = .func (.func f) #[] #[] := fun f => hout (.func f) rfl
                clear hdep hout
                refine .inr ⟨?_, rfl⟩
                show (y 16 == some true) = false
                rw [yg]; rfl
              rcases i with _ | i
              · obtain rfl := Option.some.inj ho
                have e16 : ρ (.tmp 103) = .bool false := (hdep ⟨16, .data⟩ (by simp) rfl 103 rfl).1
                have e19 : ρ (.tmp 106) = undef := (hdep ⟨19, .data⟩ (by simp) rfl 106 rfl).1
                have eg : ρ (.tmp 99) = .bool true := (hdep ⟨12, .guard⟩ (by simp) rfl 99 rfl).1
                have yg : y 12 = some true := (hdep ⟨12, .guard⟩ (by simp) rfl 99 rfl).2.trans (by rw [eg]; rfl)
                have ocn : ∀ v, ρ (.const v) = v := fun v => hout (.const v) rfl
                have ofn : ∀ f, ρ (.func f) = .func (.func f) #[] #[] := fun f => hout (.func f) rfl
                clear hdep hout
                refine .inl ⟨?_, ?_⟩
                · show (y 12 == some true) = true
                  rw [yg]; rfl
                show GivesP _ _ _ (fun v _ => v = .bool false) _
                refine GivesP.val (.bool false) rfl ?_
                go_simp
              rcases i with _ | i
              · obtain rfl := Option.some.inj ho
                have e20 : ρ (.tmp 107) = .bool false := (hdep ⟨20, .data⟩ (by simp) rfl 107 rfl).1
                have eg : ρ (.tmp 99) = .bool true := (hdep ⟨12, .guard⟩ (by simp) rfl 99 rfl).1
                have yg : y 12 = some true := (hdep ⟨12, .guard⟩ (by simp) rfl 99 rfl).2.trans (by rw [eg]; rfl)
                have ocn : ∀ v, ρ (.const v) = v := fun v => hout (.const v) rfl
                have ofn : ∀ f, ρ (.func f) = .func (.func f) #[] #[] := fun f => hout (.func f) rfl
                clear hdep hout
                refine .inl ⟨?_, ?_⟩
                · show (y 12 == some true) = true
                  rw [yg]; rfl
                show GivesP _ _ _ (fun v _ => v = .bool true) _
                refine GivesP.val (.bool true) rfl ?_
                go_simp
              rcases i with _ | i
              · obtain rfl := Option.some.inj ho
                have e21 : ρ (.tmp 108) = .bool true := (hdep ⟨21, .data⟩ (by simp) rfl 108 rfl).1
                have eg : ρ (.tmp 99) = .bool true := (hdep ⟨12, .guard⟩ (by simp) rfl 99 rfl).1
                have yg : y 12 = some true := (hdep ⟨12, .guard⟩ (by simp) rfl 99 rfl).2.trans (by rw [eg]; rfl)
                have ocn : ∀ v, ρ (.const v) = v := fun v => hout (.const v) rfl
                have ofn : ∀ f, ρ (.func f) = .func (.func f) #[] #[] := fun f => hout (.func f) rfl
                clear hdep hout
                refine .inl ⟨?_, ?_⟩
                · show (y 12 == some true) = true
                  rw [yg]; rfl
                show GivesP _ _ _ (fun v _ => v = .bool true) _
                refine GivesP.val (.bool true) rfl ?_
                go_simp
              rcases i with _ | i
              · obtain rfl := Option.some.inj ho
                have o9 : ρ (.tmp 9) = Value.pointer (some { block := x5.heap.size, off := 0 }) := hout (.tmp 9) rfl
                have eg : ρ (.tmp 109) = .bool true := (hdep ⟨22, .guard⟩ (by simp) rfl 109 rfl).1
                have yg : y 22 = some true := (hdep ⟨22, .guard⟩ (by simp) rfl 109 rfl).2.trans (by rw [eg]; rfl)
                have ocn : ∀ v, ρ (.const v) = v := fun v => hout (.const v) rfl
                have ofn : ∀ f, ρ (.func f) = .func (.func f) #[] #[] := fun f => hout (.func f) rfl
                clear hdep hout
                refine .inr ⟨?_, rfl⟩
                show (y 22 == some false) = false
                rw [yg]; rfl
              rcases i with _ | i
              · obtain rfl := Option.some.inj ho
                have o7 : ρ (.tmp 7) = Value.pointer (some { block := x3.heap.size, off := 0 }) := hout (.tmp 7) rfl
                have eg : ρ (.tmp 109) = .bool true := (hdep ⟨22, .guard⟩ (by simp) rfl 109 rfl).1
                have yg : y 22 = some true := (hdep ⟨22, .guard⟩ (by simp) rfl 109 rfl).2.trans (by rw [eg]; rfl)
                have ocn : ∀ v, ρ (.const v) = v := fun v => hout (.const v) rfl
                have ofn : ∀ f, ρ (.func f) = .func (.func f) #[] #[] := fun f => hout (.func f) rfl
                clear hdep hout
                refine .inr ⟨?_, rfl⟩
                show (y 22 == some false) = false
                rw [yg]; rfl
              rcases i with _ | i
              · obtain rfl := Option.some.inj ho
                have e23 : ρ (.tmp 110) = undef := (hdep ⟨23, .data⟩ (by simp) rfl 110 rfl).1
                have e24 : ρ (.tmp 111) = undef := (hdep ⟨24, .data⟩ (by simp) rfl 111 rfl).1
                have eg : ρ (.tmp 109) = .bool true := (hdep ⟨22, .guard⟩ (by simp) rfl 109 rfl).1
                have yg : y 22 = some true := (hdep ⟨22, .guard⟩ (by simp) rfl 109 rfl).2.trans (by rw [eg]; rfl)
                have ocn : ∀ v, ρ (.const v) = v := fun v => hout (.const v) rfl
                have ofn : ∀ f, ρ (.func f) = .func (.func f) #[] #[] := fun f => hout (.func f) rfl
                clear hdep hout
                refine .inr ⟨?_, rfl⟩
                show (y 22 == some false) = false
                rw [yg]; rfl
              rcases i with _ | i
              · obtain rfl := Option.some.inj ho
                have e22 : ρ (.tmp 109) = .bool true := (hdep ⟨22, .data⟩ (by simp) rfl 109 rfl).1
                have e25 : ρ (.tmp 112) = undef := (hdep ⟨25, .data⟩ (by simp) rfl 112 rfl).1
                have eg : ρ (.tmp 99) = .bool true := (hdep ⟨12, .guard⟩ (by simp) rfl 99 rfl).1
                have yg : y 12 = some true := (hdep ⟨12, .guard⟩ (by simp) rfl 99 rfl).2.trans (by rw [eg]; rfl)
                have ocn : ∀ v, ρ (.const v) = v := fun v => hout (.const v) rfl
                have ofn : ∀ f, ρ (.func f) = .func (.func f) #[] #[] := fun f => hout (.func f) rfl
                clear hdep hout
                refine .inl ⟨?_, ?_⟩
                · show (y 12 == some true) = true
                  rw [yg]; rfl
                show GivesP _ _ _ (fun v _ => v = .bool true) _
                refine GivesP.val (.bool true) rfl ?_
                go_simp
              rcases i with _ | i
              · obtain rfl := Option.some.inj ho
                have e12 : ρ (.tmp 99) = .bool true := (hdep ⟨12, .data⟩ (by simp) rfl 99 rfl).1
                have e26 : ρ (.tmp 113) = .bool true := (hdep ⟨26, .data⟩ (by simp) rfl 113 rfl).1
                have ocn : ∀ v, ρ (.const v) = v := fun v => hout (.const v) rfl
                have ofn : ∀ f, ρ (.func f) = .func (.func f) #[] #[] := fun f => hout (.func f) rfl
                clear hdep hout
                refine .inl ⟨?_, ?_⟩
                · rfl
                show GivesP _ _ _ (fun v _ => v = .bool true) _
                refine GivesP.val (.bool true) rfl ?_
                go_simp
              rcases i with _ | i
              · obtain rfl := Option.some.inj ho
                have e27 : ρ (.tmp 114) = .bool true := (hdep ⟨27, .data⟩ (by simp) rfl 114 rfl).1
                have ocn : ∀ v, ρ (.const v) = v := fun v => hout (.const v) rfl
                have ofn : ∀ f, ρ (.func f) = .func (.func f) #[] #[] := fun f => hout (.func f) rfl
                clear hdep hout
                refine .inl ⟨?_, ?_⟩
                · rfl
                show GivesP _ _ _ (fun v _ => v = .bool true) _
                refine GivesP.val (.bool true) rfl ?_
                go_simp
              cases ho
            case fin =>
              intro V x hBx hV
              have ev : V 28 = .bool true := hV 28 (by simp)
              clear hV
              go_wp2_with fail
              go_meet
              exact ⟨ev, HB.out.trans (hBx.mono HB.out.size), P1.out.later hBx, P2.out.later hBx, P3.out.later hBx, P5.out.later hBx, P6.out.later hBx⟩
          case rest =>
          rename World => z9
          clear HB P1 P2 P3 P5 P6
          obtain ⟨rfl, HB, P1, P2, P3, P5, P6⟩ := hcut
          go_wp2_with fail
          go_ret
          exact ⟨rfl, HB.out⟩
        · skip
          have HG1 : Hid (stIn a1 L1 (c1, l1, u1) a3 L3 (c3, l3, u3) = true) := hg1
          clear hg1
          cases hg2 : stIn a2 L2 (c2, l2, u2) a3 L3 (c3, l3, u3)
          · skip
            have HG2 : Hid (stIn a2 L2 (c2, l2, u2) a3 L3 (c3, l3, u3) = false) := hg2
            clear hg2
            go_cut [4] (fun s y => s = .bool true ∧ Hid (Below w.heap.size w y) ∧ Hid (Pr y w.heap.size x1.heap.size x1.heap.size a1 p1 n1 cap1 c1 l1 u1 L1) ∧ Hid (Pr y w.heap.size x1.heap.size (x1.heap.size + 1) a2 p2 n2 cap2 c2 l2 u2 L2) ∧ Hid (Pr y y1.heap.size x3.heap.size x3.heap.size a3 p3 n3 cap3 c3 l3 u3 L3) ∧ Hid (Pr y y3.heap.size x5.heap.size x5.heap.size ra p5 n5 cap5 rc rl ru rL) ∧ Hid (Pr y z8.heap.size x6.heap.size x6.heap.size ba p6 n6 cap6 bc bl bu bL))
            case first =>
              have hBd : Below y6.heap.size y6 y6.drew := (Below.refl _ _).drew
              refine wp_region_preds (by kernel_rfl) (by kernel_rfl) (by kernel_rfl) (by kernel_rfl) (fun j => [(fun v _ => v = .agg #[.bool ra, .slice p5 n5 cap5, .bool rc, .int .i64 rl, .int .i64 ru]), (fun v _ => v = .agg #[.bool ba, .slice p6 n6 cap6, .bool bc, .int .i64 bl, .int .i64 bu]), (fun v _ => v = .bool true), (fun v _ => v = .bool true), (fun v _ => v = .agg #[.bool ba, .slice p6 n6 cap6, .bool bc, .int .i64 bl, .int .i64 bu]), (fun v _ => v = .agg #[.bool a1, .slice p1 n1 cap1, .bool c1, .int .i64 l1, .int .i64 u1]), (fun v _ => v = .agg #[.bool a2, .slice p2 n2 cap2, .bool c2, .int .i64 l2, .int .i64 u2]), (fun v _ => v = .agg #[.bool a3, .slice p3 n3 cap3, .bool c3, .int .i64 l3, .int .i64 u3]), (fun v x => StV (ka, kL, kc, kl, ku) v x), (fun v x => StV (ba, bL, bc, bl, bu) v x), (fun v _ => v = .bool true), (fun v _ => v = .bool true), (fun v _ => v = .bool true), (fun v _ => v = .agg #[.bool a1, .slice p1 n1 cap1, .bool c1, .int .i64 l1, .int .i64 u1]), (fun v _ => v = .agg #[.bool a3, .slice p3 n3 cap3, .bool c3, .int .i64 l3, .int .i64 u3]), (fun v _ => v = .bool true), (fun v _ => v = .bool true), (fun v _ => v = .agg #[.bool a2, .slice p2 n2 cap2, .bool c2, .int .i64 l2, .int .i64 u2]), (fun v _ => v = .agg #[.bool a3, .slice p3 n3 cap3, .bool c3, .int .i64 l3, .int .i64 u3]), (fun v _ => v = .bool false), (fun v _ => v = .bool false), (fun v _ => v = .bool true), (fun v _ => v = .bool true), (fun v _ => v = undef), (fun v _ => v = undef), (fun v _ => v = undef), (fun v _ => v = .bool true), (fun v _ => v = .bool true), (fun v _ => v = .bool true)].getD j (fun _ _ => True)) ?stable y6 hBd ?step (fun V => ⟨List.toArray ((Value.slice a len cap) :: (Value.slice b lenb capb) :: (undef) :: (undef) :: (V 28) :: (Value.pointer (some { block := x1.heap.size, off := 0 })) :: (Value.pointer (some { block := x1.heap.size + 1, off := 0 })) :: (Value.pointer (some { block := x3.heap.size, off := 0 })) :: (u8) :: (Value.pointer (some { block := x5.heap.size, off := 0 })) :: (Value.pointer (some { block := x6.heap.size, off := 0 })) :: (u11) :: (u12) :: (u13) :: (u14) :: (u15) :: (u16) :: (u17) :: (u18) :: (u19) :: (u20) :: (u21) :: (u22) :: (u23) :: (u24) :: (u25) :: (u26) :: (u27) :: (u28) :: (u29) :: (u30) :: (u31) :: (u32) :: (u33) :: (u34) :: (u35) :: (u36) :: (u37) :: (u38) :: (u39) :: (u40) :: (u41) :: (u42) :: (u43) :: (u44) :: (u45) :: (u46) :: (u47) :: (u48) :: (u49) :: (u50) :: (u51) :: (u52) :: (u53) :: (u54) :: (u55) :: (u56) :: (u57) :: (u58) :: (u59) :: (u60) :: (u61) :: (u62) :: (u63) :: (u64) :: (u65) :: (u66) :: (u67) :: (u68) :: (u69) :: (u70) :: (u71) :: (u72) :: (u73) :: (u74) :: (u75) :: (u76) :: (u77) :: (u78) :: (u79) :: (u80) :: (u81) :: (u82) :: (Value.bool false) :: (Value.agg #[Value.bool ra, Value.slice p5 n5 cap5, Value.bool rc, Value.int IntKind.i64 rl, Value.int IntKind.i64 ru]) :: (Value.agg #[Value.bool a3, Value.slice p3 n3 cap3, Value.bool c3, Value.int IntKind.i64 l3, Value.int IntKind.i64 u3]) :: (Value.agg #[Value.bool ba, Value.slice p6 n6 cap6, Value.bool bc, Value.int IntKind.i64 bl, Value.int IntKind.i64 bu]) :: (V 0) :: (V 1) :: (V 2) :: (V 3) :: (V 4) :: (V 5) :: (V 6) :: (V 7) :: (V 8) :: (V 9) :: (V 10) :: (V 11) :: (V 12) :: (V 13) :: (V 14) :: (V 15) :: (V 16) :: (V 17) :: (V 18) :: (V 19) :: (V 20) :: (V 21) :: (V 22) :: (V 23) :: (V 24) :: (V 25) :: (V 26) :: (V 27) :: []), []⟩) (fun V => by kernel_rfl) ?fin
              case stable =>
                intro i v x y ht hb
                rcases i with _ | i
                · exact ht
                rcases i with _ | i
                · exact ht
                rcases i with _ | i
                · exact ht
                rcases i with _ | i
                · exact ht
                rcases i with _ | i
                · exact ht
                rcases i with _ | i
                · exact ht
                rcases i with _ | i
                · exact ht
                rcases i with _ | i
                · exact ht
                rcases i with _ | i
                · exact StV.later ht hb
                rcases i with _ | i
                · exact StV.later ht hb
                rcases i with _ | i
                · exact ht
                rcases i with _ | i
                · exact ht
                rcases i with _ | i
                · exact ht
                rcases i with _ | i
                · exact ht
                rcases i with _ | i
                · exact ht
                rcases i with _ | i
                · exact ht
                rcases i with _ | i
                · exact ht
                rcases i with _ | i
                · exact ht
                rcases i with _ | i
                · exact ht
                rcases i with _ | i
                · exact ht
                rcases i with _ | i
                · exact ht
                rcases i with _ | i
                · exact ht
                rcases i with _ | i
                · exact ht
                rcases i with _ | i
                · exact ht
                rcases i with _ | i
                · exact ht
                rcases i with _ | i
                · exact ht
                rcases i with _ | i
                · exact ht
                rcases i with _ | i
                · exact ht
                rcases i with _ | i
                · exact ht
                exact trivial
              case step =>
                intro i o ho ρ y x hBx hdep hout
                rcases i with _ | i
                · obtain rfl := Option.some.inj ho
                  have o9 : ρ (.tmp 9) = Value.pointer (some { block := x5.heap.size, off := 0 }) := hout (.tmp 9) rfl
                  have ocn : ∀ v, ρ (.const v) = v := fun v => hout (.const v) rfl
                  have ofn : ∀ f, ρ (.func f) = .func (.func f) #[] #[] := fun f => hout (.func f) rfl
                  clear hdep hout
                  refine .inl ⟨?_, ?_⟩
                  · rfl
                  obtain ⟨_, cc0, cc1, cc2, cc3, cc4, _⟩ := (P5.out.later hBx).box
                  show GivesP _ _ _ (fun v _ => v = .agg #[.bool ra, .slice p5 n5 cap5, .bool rc, .int .i64 rl, .int .i64 ru]) _
                  refine GivesP.val (.agg #[.bool ra, .slice p5 n5 cap5, .bool rc, .int .i64 rl, .int .i64 ru]) rfl ?_
                  go_simp
                rcases i with _ | i
                · obtain rfl := Option.some.inj ho
                  have o10 : ρ (.tmp 10) = Value.pointer (some { block := x6.heap.size, off := 0 }) := hout (.tmp 10) rfl
                  have ocn : ∀ v, ρ (.const v) = v := fun v => hout (.const v) rfl
                  have ofn : ∀ f, ρ (.func f) = .func (.func f) #[] #[] := fun f => hout (.func f) rfl
                  clear hdep hout
                  refine .inl ⟨?_, ?_⟩
                  · rfl
                  obtain ⟨_, cc0, cc1, cc2, cc3, cc4, _⟩ := (P6.out.later hBx).box
                  show GivesP _ _ _ (fun v _ => v = .agg #[.bool ba, .slice p6 n6 cap6, .bool bc, .int .i64 bl, .int .i64 bu]) _
                  refine GivesP.val (.agg #[.bool ba, .slice p6 n6 cap6, .bool bc, .int .i64 bl, .int .i64 bu]) rfl ?_
                  go_simp
                rcases i with _ | i
                · obtain rfl := Option.some.inj ho
                  have e0 : ρ (.tmp 87) = .agg #[.bool ra, .slice p5 n5 cap5, .bool rc, .int .i64 rl, .int .i64 ru] := (hdep ⟨0, .data⟩ (by simp) rfl 87 rfl).1
                  have e1 : ρ (.tmp 88) = .agg #[.bool ba, .slice p6 n6 cap6, .bool bc, .int .i64 bl, .int .i64 bu] := (hdep ⟨1, .data⟩ (by simp) rfl 88 rfl).1
                  have ocn : ∀ v, ρ (.const v) = v := fun v => hout (.const v) rfl
                  have ofn : ∀ f, ρ (.func f) = .func (.func f) #[] #[] := fun f => hout (.func f) rfl
                  clear hdep hout
                  refine .inl ⟨?_, ?_⟩
                  · rfl
                  show GivesP _ _ _ (fun v _ => v = .bool true) _
                  refine GivesP.call ((stIn_impl x true true _ _ _ _ _ _ rL _ _ _ _ _ bL _ _ _ (P5.out.later hBx).row (P6.out.later hBx).row).mono fun e w9 h9 => ⟨_, h9.1, by rw [HFB.out], h9.2⟩) ?_
                  go_simp
                rcases i with _ | i
                · obtain rfl := Option.some.inj ho
                  have e2 : ρ (.tmp 89) = .bool true := (hdep ⟨2, .data⟩ (by simp) rfl 89 rfl).1
                  have ocn : ∀ v, ρ (.const v) = v := fun v => hout (.const v) rfl
                  have ofn : ∀ f, ρ (.func f) = .func (.func f) #[] #[] := fun f => hout (.func f) rfl
                  clear hdep hout
                  refine .inl ⟨?_, ?_⟩
                  · rfl
                  show GivesP _ _ _ (fun v _ => v = .bool true) _
                  refine GivesP.val (.bool true) rfl ?_
                  go_simp
                rcases i with _ | i
                · obtain rfl := Option.some.inj ho
                  have o10 : ρ (.tmp 10) = Value.pointer (some { block := x6.heap.size, off := 0 }) := hout (.tmp 10) rfl
                  have eg : ρ (.tmp 90) = .bool true := (hdep ⟨3, .guard⟩ (by simp) rfl 90 rfl).1
                  have yg : y 3 = some true := (hdep ⟨3, .guard⟩ (by simp) rfl 90 rfl).2.trans (by rw [eg]; rfl)
                  have ocn : ∀ v, ρ (.const v) = v := fun v => hout (.const v) rfl
                  have ofn : ∀ f, ρ (.func f) = .func (.func f) #[] #[] := fun f => hout (.func f) rfl
                  clear hdep hout
                  refine .inl ⟨?_, ?_⟩
                  · show (y 3 == some true) = true
                    rw [yg]; rfl
                  obtain ⟨_, cc0, cc1, cc2, cc3, cc4, _⟩ := (P6.out.later hBx).box
                  show GivesP _ _ _ (fun v _ => v = .agg #[.bool ba, .slice p6 n6 cap6, .bool bc, .int .i64 bl, .int .i64 bu]) _
                  refine GivesP.val (.agg #[.bool ba, .slice p6 n6 cap6, .bool bc, .int .i64 bl, .int .i64 bu]) rfl ?_
                  go_simp
                rcases i with _ | i
                · obtain rfl := Option.some.inj ho
                  have o5 : ρ (.tmp 5) = Value.pointer (some { block := x1.heap.size, off := 0 }) := hout (.tmp 5) rfl
                  have eg : ρ (.tmp 90) = .bool true := (hdep ⟨3, .guard⟩ (by simp) rfl 90 rfl).1
                  have yg : y 3 = some true := (hdep ⟨3, .guard⟩ (by simp) rfl 90 rfl).2.trans (by rw [eg]; rfl)
                  have ocn : ∀ v, ρ (.const v) = v := fun v => hout (.const v) rfl
                  have ofn : ∀ f, ρ (.func f) = .func (.func f) #[] #[] := fun f => hout (.func f) rfl
                  clear hdep hout
                  refine .inl ⟨?_, ?_⟩
                  · show (y 3 == some true) = true
                    rw [yg]; rfl
                  obtain ⟨_, cc0, cc1, cc2, cc3, cc4, _⟩ := (P1.out.later hBx).box
                  show GivesP _ _ _ (fun v _ => v = .agg #[.bool a1, .slice p1 n1 cap1, .bool c1, .int .i64 l1, .int .i64 u1]) _
                  refine GivesP.val (.agg #[.bool a1, .slice p1 n1 cap1, .bool c1, .int .i64 l1, .int .i64 u1]) rfl ?_
                  go_simp
                rcases i with _ | i
                · obtain rfl := Option.some.inj ho
                  have o6 : ρ (.tmp 6) = Value.pointer (some { block := x1.heap.size + 1, off := 0 }) := hout (.tmp 6) rfl
                  have eg : ρ (.tmp 90) = .bool true := (hdep ⟨3, .guard⟩ (by simp) rfl 90 rfl).1
                  have yg : y 3 = some true := (hdep ⟨3, .guard⟩ (by simp) rfl 90 rfl).2.trans (by rw [eg]; rfl)
                  have ocn : ∀ v, ρ (.const v) = v := fun v => hout (.const v) rfl
                  have ofn : ∀ f, ρ (.func f) = .func (.func f) #[] #[] := fun f => hout (.func f) rfl
                  clear hdep hout
                  refine .inl ⟨?_, ?_⟩
                  · show (y 3 == some true) = true
                    rw [yg]; rfl
                  obtain ⟨_, cc0, cc1, cc2, cc3, cc4, _⟩ := (P2.out.later hBx).box
                  show GivesP _ _ _ (fun v _ => v = .agg #[.bool a2, .slice p2 n2 cap2, .bool c2, .int .i64 l2, .int .i64 u2]) _
                  refine GivesP.val (.agg #[.bool a2, .slice p2 n2 cap2, .bool c2, .int .i64 l2, .int .i64 u2]) rfl ?_
                  go_simp
                rcases i with _ | i
                · obtain rfl := Option.some.inj ho
                  have o7 : ρ (.tmp 7) = Value.pointer (some { block := x3.heap.size, off := 0 }) := hout (.tmp 7) rfl
                  have eg : ρ (.tmp 90) = .bool true := (hdep ⟨3, .guard⟩ (by simp) rfl 90 rfl).1
                  have yg : y 3 = some true := (hdep ⟨3, .guard⟩ (by simp) rfl 90 rfl).2.trans (by rw [eg]; rfl)
                  have ocn : ∀ v, ρ (.const v) = v := fun v => hout (.const v) rfl
                  have ofn : ∀ f, ρ (.func f) = .func (.func f) #[] #[] := fun f => hout (.func f) rfl
                  clear hdep hout
                  refine .inl ⟨?_, ?_⟩
                  · show (y 3 == some true) = true
                    rw [yg]; rfl
                  obtain ⟨_, cc0, cc1, cc2, cc3, cc4, _⟩ := (P3.out.later hBx).box
                  show GivesP _ _ _ (fun v _ => v = .agg #[.bool a3, .slice p3 n3 cap3, .bool c3, .int .i64 l3, .int .i64 u3]) _
                  refine GivesP.val (.agg #[.bool a3, .slice p3 n3 cap3, .bool c3, .int .i64 l3, .int .i64 u3]) rfl ?_
                  go_simp
                rcases i with _ | i
                · obtain rfl := Option.some.inj ho
                  have e6 : ρ (.tmp 93) = .agg #[.bool a2, .slice p2 n2 cap2, .bool c2, .int .i64 l2, .int .i64 u2] := (hdep ⟨6, .data⟩ (by simp) rfl 93 rfl).1
                  have e7 : ρ (.tmp 94) = .agg #[.bool a3, .slice p3 n3 cap3, .bool c3, .int .i64 l3, .int .i64 u3] := (hdep ⟨7, .data⟩ (by simp) rfl 94 rfl).1
                  have eg : ρ (.tmp 90) = .bool true := (hdep ⟨3, .guard⟩ (by simp) rfl 90 rfl).1
                  have yg : y 3 = some true := (hdep ⟨3, .guard⟩ (by simp) rfl 90 rfl).2.trans (by rw [eg]; rfl)
                  have ocn : ∀ v, ρ (.const v) = v := fun v => hout (.const v) rfl
                  have ofn : ∀ f, ρ (.func f) = .func (.func f) #[] #[] := fun f => hout (.func f) rfl
                  clear hdep hout
                  refine .inl ⟨?_, ?_⟩
                  · show (y 3 == some true) = true
                    rw [yg]; rfl
                  show GivesP _ _ _ (fun v x => StV (ka, kL, kc, kl, ku) v x) _
                  refine GivesP.call ((stJoin_impl x true true _ _ _ _ _ _ L2 _ _ _ _ _ L3 _ _ _ (P2.out.later hBx).row (P3.out.later hBx).row).mono fun e w9 h9 => stV_of h9 HKK.out) ?_
                  go_simp
                rcases i with _ | i
                · obtain rfl := Option.some.inj ho
                  have e5 : ρ (.tmp 92) = .agg #[.bool a1, .slice p1 n1 cap1, .bool c1, .int .i64 l1, .int .i64 u1] := (hdep ⟨5, .data⟩ (by simp) rfl 92 rfl).1
                  have t8 : StV (ka, kL, kc, kl, ku) (ρ (.tmp 95)) x := (hdep ⟨8, .data⟩ (by simp) rfl 95 rfl).1
                  obtain ⟨q8, k8, B8, E8, e8, s8⟩ := t8
                  have eg : ρ (.tmp 90) = .bool true := (hdep ⟨3, .guard⟩ (by simp) rfl 90 rfl).1
                  have yg : y 3 = some true := (hdep ⟨3, .guard⟩ (by simp) rfl 90 rfl).2.trans (by rw [eg]; rfl)
                  have ocn : ∀ v, ρ (.const v) = v := fun v => hout (.const v) rfl
                  have ofn : ∀ f, ρ (.func f) = .func (.func f) #[] #[] := fun f => hout (.func f) rfl
                  clear hdep hout
                  refine .inl ⟨?_, ?_⟩
                  · show (y 3 == some true) = true
                    rw [yg]; rfl
                  show GivesP _ _ _ (fun v x => StV (ba, bL, bc, bl, bu) v x) _
                  refine GivesP.call ((stJoin_impl x true true _ _ _ _ _ _ L1 _ _ _ _ _ kL _ _ _ (P1.out.later hBx).row s8).mono fun e w9 h9 => stV_of h9 HAS.out) ?_
                  go_simp
                rcases i with _ | i
                · obtain rfl := Option.some.inj ho
                  have e4 : ρ (.tmp 91) = .agg #[.bool ba, .slice p6 n6 cap6, .bool bc, .int .i64 bl, .int .i64 bu] := (hdep ⟨4, .data⟩ (by simp) rfl 91 rfl).1
                  have t9 : StV (ba, bL, bc, bl, bu) (ρ (.tmp 96)) x := (hdep ⟨9, .data⟩ (by simp) rfl 96 rfl).1
                  obtain ⟨q9, k9, B9, E9, e9, s9⟩ := t9
                  have eg : ρ (.tmp 90) = .bool true := (hdep ⟨3, .guard⟩ (by simp) rfl 90 rfl).1
                  have yg : y 3 = some true := (hdep ⟨3, .guard⟩ (by simp) rfl 90 rfl).2.trans (by rw [eg]; rfl)
                  have ocn : ∀ v, ρ (.const v) = v := fun v => hout (.const v) rfl
                  have ofn : ∀ f, ρ (.func f) = .func (.func f) #[] #[] := fun f => hout (.func f) rfl
                  clear hdep hout
                  refine .inl ⟨?_, ?_⟩
                  · show (y 3 == some true) = true
                    rw [yg]; rfl
                  show GivesP _ _ _ (fun v _ => v = .bool true) _
                  refine GivesP.call ((lgState_same x true true _ _ _ _ ba _ _ bL bc bl bu (P6.out.later hBx).row s9).mono fun e w9 h9 => ⟨_, h9.1, rfl, h9.2⟩) ?_
                  go_simp
                rcases i with _ | i
                · obtain rfl := Option.some.inj ho
                  have e3 : ρ (.tmp 90) = .bool true := (hdep ⟨3, .data⟩ (by simp) rfl 90 rfl).1
                  have e10 : ρ (.tmp 97) = .bool true := (hdep ⟨10, .data⟩ (by simp) rfl 97 rfl).1
                  have ocn : ∀ v, ρ (.const v) = v := fun v => hout (.const v) rfl
                  have ofn : ∀ f, ρ (.func f) = .func (.func f) #[] #[] := fun f => hout (.func f) rfl
                  clear hdep hout
                  refine .inl ⟨?_, ?_⟩
                  · rfl
                  show GivesP _ _ _ (fun v _ => v = .bool true) _
                  refine GivesP.val (.bool true) rfl ?_
                  go_simp
                rcases i with _ | i
                · obtain rfl := Option.some.inj ho
                  have e11 : ρ (.tmp 98) = .bool true := (hdep ⟨11, .data⟩ (by simp) rfl 98 rfl).1
                  have ocn : ∀ v, ρ (.const v) = v := fun v => hout (.const v) rfl
                  have ofn : ∀ f, ρ (.func f) = .func (.func f) #[] #[] := fun f => hout (.func f) rfl
                  clear hdep hout
                  refine .inl ⟨?_, ?_⟩
                  · rfl
                  show GivesP _ _ _ (fun v _ => v = .bool true) _
                  refine GivesP.val (.bool true) rfl ?_
                  go_simp
                rcases i with _ | i
                · obtain rfl := Option.some.inj ho
                  have o5 : ρ (.tmp 5) = Value.pointer (some { block := x1.heap.size, off := 0 }) := hout (.tmp 5) rfl
                  have eg : ρ (.tmp 99) = .bool true := (hdep ⟨12, .guard⟩ (by simp) rfl 99 rfl).1
                  have yg : y 12 = some true := (hdep ⟨12, .guard⟩ (by simp) rfl 99 rfl).2.trans (by rw [eg]; rfl)
                  have ocn : ∀ v, ρ (.const v) = v := fun v => hout (.const v) rfl
                  have ofn : ∀ f, ρ (.func f) = .func (.func f) #[] #[] := fun f => hout (.func f) rfl
                  clear hdep hout
                  refine .inl ⟨?_, ?_⟩
                  · show (y 12 == some true) = true
                    rw [yg]; rfl
                  obtain ⟨_, cc0, cc1, cc2, cc3, cc4, _⟩ := (P1.out.later hBx).box
                  show GivesP _ _ _ (fun v _ => v = .agg #[.bool a1, .slice p1 n1 cap1, .bool c1, .int .i64 l1, .int .i64 u1]) _
                  refine GivesP.val (.agg #[.bool a1, .slice p1 n1 cap1, .bool c1, .int .i64 l1, .int .i64 u1]) rfl ?_
                  go_simp
                rcases i with _ | i
                · obtain rfl := Option.some.inj ho
                  have o7 : ρ (.tmp 7) = Value.pointer (some { block := x3.heap.size, off := 0 }) := hout (.tmp 7) rfl
                  have eg : ρ (.tmp 99) = .bool true := (hdep ⟨12, .guard⟩ (by simp) rfl 99 rfl).1
                  have yg : y 12 = some true := (hdep ⟨12, .guard⟩ (by simp) rfl 99 rfl).2.trans (by rw [eg]; rfl)
                  have ocn : ∀ v, ρ (.const v) = v := fun v => hout (.const v) rfl
                  have ofn : ∀ f, ρ (.func f) = .func (.func f) #[] #[] := fun f => hout (.func f) rfl
                  clear hdep hout
                  refine .inl ⟨?_, ?_⟩
                  · show (y 12 == some true) = true
                    rw [yg]; rfl
                  obtain ⟨_, cc0, cc1, cc2, cc3, cc4, _⟩ := (P3.out.later hBx).box
                  show GivesP _ _ _ (fun v _ => v = .agg #[.bool a3, .slice p3 n3 cap3, .bool c3, .int .i64 l3, .int .i64 u3]) _
                  refine GivesP.val (.agg #[.bool a3, .slice p3 n3 cap3, .bool c3, .int .i64 l3, .int .i64 u3]) rfl ?_
                  go_simp
                rcases i with _ | i
                · obtain rfl := Option.some.inj ho
                  have e13 : ρ (.tmp 100) = .agg #[.bool a1, .slice p1 n1 cap1, .bool c1, .int .i64 l1, .int .i64 u1] := (hdep ⟨13, .data⟩ (by simp) rfl 100 rfl).1
                  have e14 : ρ (.tmp 101) = .agg #[.bool a3, .slice p3 n3 cap3, .bool c3, .int .i64 l3, .int .i64 u3] := (hdep ⟨14, .data⟩ (by simp) rfl 101 rfl).1
                  have eg : ρ (.tmp 99) = .bool true := (hdep ⟨12, .guard⟩ (by simp) rfl 99 rfl).1
                  have yg : y 12 = some true := (hdep ⟨12, .guard⟩ (by simp) rfl 99 rfl).2.trans (by rw [eg]; rfl)
                  have ocn : ∀ v, ρ (.const v) = v := fun v => hout (.const v) rfl
                  have ofn : ∀ f, ρ (.func f) = .func (.func f) #[] #[] := fun f => hout (.func f) rfl
                  clear hdep hout
                  refine .inl ⟨?_, ?_⟩
                  · show (y 12 == some true) = true
                    rw [yg]; rfl
                  show GivesP _ _ _ (fun v _ => v = .bool true) _
                  refine GivesP.call ((stIn_impl x true true _ _ _ _ _ _ L1 _ _ _ _ _ L3 _ _ _ (P1.out.later hBx).row (P3.out.later hBx).row).mono fun e w9 h9 => ⟨_, h9.1, by rw [HG1.out], h9.2⟩) ?_
                  go_simp
                rcases i with _ | i
                · obtain rfl := Option.some.inj ho
                  have e15 : ρ (.tmp 102) = .bool true := (hdep ⟨15, .data⟩ (by simp) rfl 102 rfl).1
                  have eg : ρ (.tmp 99) = .bool true := (hdep ⟨12, .guard⟩ (by simp) rfl 99 rfl).1
                  have yg : y 12 = some true := (hdep ⟨12, .guard⟩ (by simp) rfl 99 rfl).2.trans (by rw [eg]; rfl)
                  have ocn : ∀ v, ρ (.const v) = v := fun v => hout (.const v) rfl
                  have ofn : ∀ f, ρ (.func f) = .func (.func f) #[] #[] := fun f => hout (.func f) rfl
                  clear hdep hout
                  refine .inl ⟨?_, ?_⟩
                  · show (y 12 == some true) = true
                    rw [yg]; rfl
                  show GivesP _ _ _ (fun v _ => v = .bool true) _
                  refine GivesP.val (.bool true) rfl ?_
                  go_simp
                rcases i with _ | i
                · obtain rfl := Option.some.inj ho
                  have o6 : ρ (.tmp 6) = Value.pointer (some { block := x1.heap.size + 1, off := 0 }) := hout (.tmp 6) rfl
                  have eg : ρ (.tmp 103) = .bool true := (hdep ⟨16, .guard⟩ (by simp) rfl 103 rfl).1
                  have yg : y 16 = some true := (hdep ⟨16, .guard⟩ (by simp) rfl 103 rfl).2.trans (by rw [eg]; rfl)
                  have ocn : ∀ v, ρ (.const v) = v := fun v => hout (.const v) rfl
                  have ofn : ∀ f, ρ (.func f) = .func (.func f) #[] #[] := fun f => hout (.func f) rfl
                  clear hdep hout
                  refine .inl ⟨?_, ?_⟩
                  · show (y 16 == some true) = true
                    rw [yg]; rfl
                  obtain ⟨_, cc0, cc1, cc2, cc3, cc4, _⟩ := (P2.out.later hBx).box
                  show GivesP _ _ _ (fun v _ => v = .agg #[.bool a2, .slice p2 n2 cap2, .bool c2, .int .i64 l2, .int .i64 u2]) _
                  refine GivesP.val (.agg #[.bool a2, .slice p2 n2 cap2, .bool c2, .int .i64 l2, .int .i64 u2]) rfl ?_
                  go_simp
                rcases i with _ | i
                · obtain rfl := Option.some.inj ho
                  have o7 : ρ (.tmp 7) = Value.pointer (some { block := x3.heap.size, off := 0 }) := hout (.tmp 7) rfl
                  have eg : ρ (.tmp 103) = .bool true := (hdep ⟨16, .guard⟩ (by simp) rfl 103 rfl).1
                  have yg : y 16 = some true := (hdep ⟨16, .guard⟩ (by simp) rfl 103 rfl).2.trans (by rw [eg]; rfl)
                  have ocn : ∀ v, ρ (.const v) = v := fun v => hout (.const v) rfl
                  have ofn : ∀ f, ρ (.func f) = .func (.func f) #[] #[] := fun f => hout (.func f) rfl
                  clear hdep hout
                  refine .inl ⟨?_, ?_⟩
                  · show (y 16 == some true) = true
                    rw [yg]; rfl
                  obtain ⟨_, cc0, cc1, cc2, cc3, cc4, _⟩ := (P3.out.later hBx).box
                  show GivesP _ _ _ (fun v _ => v = .agg #[.bool a3, .slice p3 n3 cap3, .bool c3, .int .i64 l3, .int .i64 u3]) _
                  refine GivesP.val (.agg #[.bool a3, .slice p3 n3 cap3, .bool c3, .int .i64 l3, .int .i64 u3]) rfl ?_
                  go_simp
                rcases i with _ | i
                · obtain rfl := Option.some.inj ho
                  have e17 : ρ (.tmp 104) = .agg #[.bool a2, .slice p2 n2 cap2, .bool c2, .int .i64 l2, .int .i64 u2] := (hdep ⟨17, .data⟩ (by simp) rfl 104 rfl).1
                  have e18 : ρ (.tmp 105) = .agg #[.bool a3, .slice p3 n3 cap3, .bool c3, .int .i64 l3, .int .i64 u3] := (hdep ⟨18, .data⟩ (by simp) rfl 105 rfl).1
                  have eg : ρ (.tmp 103) = .bool true := (hdep ⟨16, .guard⟩ (by simp) rfl 103 rfl).1
                  have yg : y 16 = some true := (hdep ⟨16, .guard⟩ (by simp) rfl 103 rfl).2.trans (by rw [eg]; rfl)
                  have ocn : ∀ v, ρ (.const v) = v := fun v => hout (.const v) rfl
                  have ofn : ∀ f, ρ (.func f) = .func (.func f) #[] #[] := fun f => hout (.func f) rfl
                  clear hdep hout
                  refine .inl ⟨?_, ?_⟩
                  · show (y 16 == some true) = true
                    rw [yg]; rfl
                  show GivesP _ _ _ (fun v _ => v = .bool false) _
                  refine GivesP.call ((stIn_impl x true true _ _ _ _ _ _ L2 _ _ _ _ _ L3 _ _ _ (P2.out.later hBx).row (P3.out.later hBx).row).mono fun e w9 h9 => ⟨_, h9.1, by rw [HG2.out], h9.2⟩) ?_
                  go_simp
                rcases i with _ | i
                · obtain rfl := Option.some.inj ho
                  have e16 : ρ (.tmp 103) = .bool true := (hdep ⟨16, .data⟩ (by simp) rfl 103 rfl).1
                  have e19 : ρ (.tmp 106) = .bool false := (hdep ⟨19, .data⟩ (by simp) rfl 106 rfl).1
                  have eg : ρ (.tmp 99) = .bool true := (hdep ⟨12, .guard⟩ (by simp) rfl 99 rfl).1
                  have yg : y 12 = some true := (hdep ⟨12, .guard⟩ (by simp) rfl 99 rfl).2.trans (by rw [eg]; rfl)
                  have ocn : ∀ v, ρ (.const v) = v := fun v => hout (.const v) rfl
                  have ofn : ∀ f, ρ (.func f) = .func (.func f) #[] #[] := fun f => hout (.func f) rfl
                  clear hdep hout
                  refine .inl ⟨?_, ?_⟩
                  · show (y 12 == some true) = true
                    rw [yg]; rfl
                  show GivesP _ _ _ (fun v _ => v = .bool false) _
                  refine GivesP.val (.bool false) rfl ?_
                  go_simp
                rcases i with _ | i
                · obtain rfl := Option.some.inj ho
                  have e20 : ρ (.tmp 107) = .bool false := (hdep ⟨20, .data⟩ (by simp) rfl 107 rfl).1
                  have eg : ρ (.tmp 99) = .bool true := (hdep ⟨12, .guard⟩ (by simp) rfl 99 rfl).1
                  have yg : y 12 = some true := (hdep ⟨12, .guard⟩ (by simp) rfl 99 rfl).2.trans (by rw [eg]; rfl)
                  have ocn : ∀ v, ρ (.const v) = v := fun v => hout (.const v) rfl
                  have ofn : ∀ f, ρ (.func f) = .func (.func f) #[] #[] := fun f => hout (.func f) rfl
                  clear hdep hout
                  refine .inl ⟨?_, ?_⟩
                  · show (y 12 == some true) = true
                    rw [yg]; rfl
                  show GivesP _ _ _ (fun v _ => v = .bool true) _
                  refine GivesP.val (.bool true) rfl ?_
                  go_simp
                rcases i with _ | i
                · obtain rfl := Option.some.inj ho
                  have e21 : ρ (.tmp 108) = .bool true := (hdep ⟨21, .data⟩ (by simp) rfl 108 rfl).1
                  have eg : ρ (.tmp 99) = .bool true := (hdep ⟨12, .guard⟩ (by simp) rfl 99 rfl).1
                  have yg : y 12 = some true := (hdep ⟨12, .guard⟩ (by simp) rfl 99 rfl).2.trans (by rw [eg]; rfl)
                  have ocn : ∀ v, ρ (.const v) = v := fun v => hout (.const v) rfl
                  have ofn : ∀ f, ρ (.func f) = .func (.func f) #[] #[] := fun f => hout (.func f) rfl
                  clear hdep hout
                  refine .inl ⟨?_, ?_⟩
                  · show (y 12 == some true) = true
                    rw [yg]; rfl
                  show GivesP _ _ _ (fun v _ => v = .bool true) _
                  refine GivesP.val (.bool true) rfl ?_
                  go_simp
                rcases i with _ | i
                · obtain rfl := Option.some.inj ho
                  have o9 : ρ (.tmp 9) = Value.pointer (some { block := x5.heap.size, off := 0 }) := hout (.tmp 9) rfl
                  have eg : ρ (.tmp 109) = .bool true := (hdep ⟨22, .guard⟩ (by simp) rfl 109 rfl).1
                  have yg : y 22 = some true := (hdep ⟨22, .guard⟩ (by simp) rfl 109 rfl).2.trans (by rw [eg]; rfl)
                  have ocn : ∀ v, ρ (.const v) = v := fun v => hout (.const v) rfl
                  have ofn : ∀ f, ρ (.func f) = .func (.func f) #[] #[] := fun f => hout (.func f) rfl
                  clear hdep hout
                  refine .inr ⟨?_, rfl⟩
                  show (y 22 == some false) = false
                  rw [yg]; rfl
                rcases i with _ | i
                · obtain rfl := Option.some.inj ho
                  have o7 : ρ (.tmp 7) = Value.pointer (some { block := x3.heap.size, off := 0 }) := hout (.tmp 7) rfl
                  have eg : ρ (.tmp 109) = .bool true := (hdep ⟨22, .guard⟩ (by simp) rfl 109 rfl).1
                  have yg : y 22 = some true := (hdep ⟨22, .guard⟩ (by simp) rfl 109 rfl).2.trans (by rw [eg]; rfl)
                  have ocn : ∀ v, ρ (.const v) = v := fun v => hout (.const v) rfl
                  have ofn : ∀ f, ρ (.func f) = .func (.func f) #[] #[] := fun f => hout (.func f) rfl
                  clear hdep hout
                  refine .inr ⟨?_, rfl⟩
                  show (y 22 == some false) = false
                  rw [yg]; rfl
                rcases i with _ | i
                · obtain rfl := Option.some.inj ho
                  have e23 : ρ (.tmp 110) = undef := (hdep ⟨23, .data⟩ (by simp) rfl 110 rfl).1
                  have e24 : ρ (.tmp 111) = undef := (hdep ⟨24, .data⟩ (by simp) rfl 111 rfl).1
                  have eg : ρ (.tmp 109) = .bool true := (hdep ⟨22, .guard⟩ (by simp) rfl 109 rfl).1
                  have yg : y 22 = some true := (hdep ⟨22, .guard⟩ (by simp) rfl 109 rfl).2.trans (by rw [eg]; rfl)
                  have ocn : ∀ v, ρ (.const v) = v := fun v => hout (.const v) rfl
                  have ofn : ∀ f, ρ (.func f) = .func (.func f) #[] #[] := fun f => hout (.func f) rfl
                  clear hdep hout
                  refine .inr ⟨?_, rfl⟩
                  show (y 22 == some false) = false
                  rw [yg]; rfl
                rcases i with _ | i
                · obtain rfl := Option.some.inj ho
                  have e22 : ρ (.tmp 109) = .bool true := (hdep ⟨22, .data⟩ (by simp) rfl 109 rfl).1
                  have e25 : ρ (.tmp 112) = undef := (hdep ⟨25, .data⟩ (by simp) rfl 112 rfl).1
                  have eg : ρ (.tmp 99) = .bool true := (hdep ⟨12, .guard⟩ (by simp) rfl 99 rfl).1
                  have yg : y 12 = some true := (hdep ⟨12, .guard⟩ (by simp) rfl 99 rfl).2.trans (by rw [eg]; rfl)
                  have ocn : ∀ v, ρ (.const v) = v := fun v => hout (.const v) rfl
                  have ofn : ∀ f, ρ (.func f) = .func (.func f) #[] #[] := fun f => hout (.func f) rfl
                  clear hdep hout
                  refine .inl ⟨?_, ?_⟩
                  · show (y 12 == some true) = true
                    rw [yg]; rfl
                  show GivesP _ _ _ (fun v _ => v = .bool true) _
                  refine GivesP.val (.bool true) rfl ?_
                  go_simp
                rcases i with _ | i
                · obtain rfl := Option.some.inj ho
                  have e12 : ρ (.tmp 99) = .bool true := (hdep ⟨12, .data⟩ (by simp) rfl 99 rfl).1
                  have e26 : ρ (.tmp 113) = .bool true := (hdep ⟨26, .data⟩ (by simp) rfl 113 rfl).1
                  have ocn : ∀ v, ρ (.const v) = v := fun v => hout (.const v) rfl
                  have ofn : ∀ f, ρ (.func f) = .func (.func f) #[] #[] := fun f => hout (.func f) rfl
                  clear hdep hout
                  refine .inl ⟨?_, ?_⟩
                  · rfl
                  show GivesP _ _ _ (fun v _ => v = .bool true) _
                  refine GivesP.val (.bool true) rfl ?_
                  go_simp
                rcases i with _ | i
                · obtain rfl := Option.some.inj ho
                  have e27 : ρ (.tmp 114) = .bool true := (hdep ⟨27, .data⟩ (by simp) rfl 114 rfl).1
                  have ocn : ∀ v, ρ (.const v) = v := fun v => hout (.const v) rfl
                  have ofn : ∀ f, ρ (.func f) = .func (.func f) #[] #[] := fun f => hout (.func f) rfl
                  clear hdep hout
                  refine .inl ⟨?_, ?_⟩
                  · rfl
                  show GivesP _ _ _ (fun v _ => v = .bool true) _
                  refine GivesP.val (.bool true) rfl ?_
                  go_simp
                cases ho
              case fin =>
                intro V x hBx hV
                have ev : V 28 = .bool true := hV 28 (by simp)
                clear hV
                go_wp2_with fail
                go_meet
                exact ⟨ev, HB.out.trans (hBx.mono HB.out.size), P1.out.later hBx, P2.out.later hBx, P3.out.later hBx, P5.out.later hBx, P6.out.later hBx⟩
            case rest =>
            rename World => z10
            clear HB P1 P2 P3 P5 P6
            obtain ⟨rfl, HB, P1, P2, P3, P5, P6⟩ := hcut
            go_wp2_with fail
            go_ret
            exact ⟨rfl, HB.out⟩
          · skip
            have HG2 : Hid (stIn a2 L2 (c2, l2, u2) a3 L3 (c3, l3, u3) = true) := hg2
            clear hg2
            go_cut [4] (fun s y => s = .bool true ∧ Hid (Below w.heap.size w y) ∧ Hid (Pr y w.heap.size x1.heap.size x1.heap.size a1 p1 n1 cap1 c1 l1 u1 L1) ∧ Hid (Pr y w.heap.size x1.heap.size (x1.heap.size + 1) a2 p2 n2 cap2 c2 l2 u2 L2) ∧ Hid (Pr y y1.heap.size x3.heap.size x3.heap.size a3 p3 n3 cap3 c3 l3 u3 L3) ∧ Hid (Pr y y3.heap.size x5.heap.size x5.heap.size ra p5 n5 cap5 rc rl ru rL) ∧ Hid (Pr y z8.heap.size x6.heap.size x6.heap.size ba p6 n6 cap6 bc bl bu bL))
            case first =>
              have hBd : Below y6.heap.size y6 y6.drew := (Below.refl _ _).drew
              refine wp_region_preds (by kernel_rfl) (by kernel_rfl) (by kernel_rfl) (by kernel_rfl) (fun j => [(fun v _ => v = .agg #[.bool ra, .slice p5 n5 cap5, .bool rc, .int .i64 rl, .int .i64 ru]), (fun v _ => v = .agg #[.bool ba, .slice p6 n6 cap6, .bool bc, .int .i64 bl, .int .i64 bu]), (fun v _ => v = .bool true), (fun v _ => v = .bool true), (fun v _ => v = .agg #[.bool ba, .slice p6 n6 cap6, .bool bc, .int .i64 bl, .int .i64 bu]), (fun v _ => v = .agg #[.bool a1, .slice p1 n1 cap1, .bool c1, .int .i64 l1, .int .i64 u1]), (fun v _ => v = .agg #[.bool a2, .slice p2 n2 cap2, .bool c2, .int .i64 l2, .int .i64 u2]), (fun v _ => v = .agg #[.bool a3, .slice p3 n3 cap3, .bool c3, .int .i64 l3, .int .i64 u3]), (fun v x => StV (ka, kL, kc, kl, ku) v x), (fun v x => StV (ba, bL, bc, bl, bu) v x), (fun v _ => v = .bool true), (fun v _ => v = .bool true), (fun v _ => v = .bool true), (fun v _ => v = .agg #[.bool a1, .slice p1 n1 cap1, .bool c1, .int .i64 l1, .int .i64 u1]), (fun v _ => v = .agg #[.bool a3, .slice p3 n3 cap3, .bool c3, .int .i64 l3, .int .i64 u3]), (fun v _ => v = .bool true), (fun v _ => v = .bool true), (fun v _ => v = .agg #[.bool a2, .slice p2 n2 cap2, .bool c2, .int .i64 l2, .int .i64 u2]), (fun v _ => v = .agg #[.bool a3, .slice p3 n3 cap3, .bool c3, .int .i64 l3, .int .i64 u3]), (fun v _ => v = .bool true), (fun v _ => v = .bool true), (fun v _ => v = .bool false), (fun v _ => v = .bool false), (fun v _ => v = .agg #[.bool ra, .slice p5 n5 cap5, .bool rc, .int .i64 rl, .int .i64 ru]), (fun v _ => v = .agg #[.bool a3, .slice p3 n3 cap3, .bool c3, .int .i64 l3, .int .i64 u3]), (fun v _ => v = .bool true), (fun v _ => v = .bool true), (fun v _ => v = .bool true), (fun v _ => v = .bool true)].getD j (fun _ _ => True)) ?stable y6 hBd ?step (fun V => ⟨List.toArray ((Value.slice a len cap) :: (Value.slice b lenb capb) :: (undef) :: (undef) :: (V 28) :: (Value.pointer (some { block := x1.heap.size, off := 0 })) :: (Value.pointer (some { block := x1.heap.size + 1, off := 0 })) :: (Value.pointer (some { block := x3.heap.size, off := 0 })) :: (u8) :: (Value.pointer (some { block := x5.heap.size, off := 0 })) :: (Value.pointer (some { block := x6.heap.size, off := 0 })) :: (u11) :: (u12) :: (u13) :: (u14) :: (u15) :: (u16) :: (u17) :: (u18) :: (u19) :: (u20) :: (u21) :: (u22) :: (u23) :: (u24) :: (u25) :: (u26) :: (u27) :: (u28) :: (u29) :: (u30) :: (u31) :: (u32) :: (u33) :: (u34) :: (u35) :: (u36) :: (u37) :: (u38) :: (u39) :: (u40) :: (u41) :: (u42) :: (u43) :: (u44) :: (u45) :: (u46) :: (u47) :: (u48) :: (u49) :: (u50) :: (u51) :: (u52) :: (u53) :: (u54) :: (u55) :: (u56) :: (u57) :: (u58) :: (u59) :: (u60) :: (u61) :: (u62) :: (u63) :: (u64) :: (u65) :: (u66) :: (u67) :: (u68) :: (u69) :: (u70) :: (u71) :: (u72) :: (u73) :: (u74) :: (u75) :: (u76) :: (u77) :: (u78) :: (u79) :: (u80) :: (u81) :: (u82) :: (Value.bool false) :: (Value.agg #[Value.bool ra, Value.slice p5 n5 cap5, Value.bool rc, Value.int IntKind.i64 rl, Value.int IntKind.i64 ru]) :: (Value.agg #[Value.bool a3, Value.slice p3 n3 cap3, Value.bool c3, Value.int IntKind.i64 l3, Value.int IntKind.i64 u3]) :: (Value.agg #[Value.bool ba, Value.slice p6 n6 cap6, Value.bool bc, Value.int IntKind.i64 bl, Value.int IntKind.i64 bu]) :: (V 0) :: (V 1) :: (V 2) :: (V 3) :: (V 4) :: (V 5) :: (V 6) :: (V 7) :: (V 8) :: (V 9) :: (V 10) :: (V 11) :: (V 12) :: (V 13) :: (V 14) :: (V 15) :: (V 16) :: (V 17) :: (V 18) :: (V 19) :: (V 20) :: (V 21) :: (V 22) :: (V 23) :: (V 24) :: (V 25) :: (V 26) :: (V 27) :: []), []⟩) (fun V => by kernel_rfl) ?fin
              case stable =>
                intro i v x y ht hb
                rcases i with _ | i
                · exact ht
                rcases i with _ | i
                · exact ht
                rcases i with _ | i
                · exact ht
                rcases i with _ | i
                · exact ht
                rcases i with _ | i
                · exact ht
                rcases i with _ | i
                · exact ht
                rcases i with _ | i
                · exact ht
                rcases i with _ | i
                · exact ht
                rcases i with _ | i
                · exact StV.later ht hb
                rcases i with _ | i
                · exact StV.later ht hb
                rcases i with _ | i
                · exact ht
                rcases i with _ | i
                · exact ht
                rcases i with _ | i
                · exact ht
                rcases i with _ | i
                · exact ht
                rcases i with _ | i
                · exact ht
                rcases i with _ | i
                · exact ht
                rcases i with _ | i
                · exact ht
                rcases i with _ | i
                · exact ht
                rcases i with _ | i
                · exact ht
                rcases i with _ | i
                · exact ht
                rcases i with _ | i
                · exact ht
                rcases i with _ | i
                · exact ht
                rcases i with _ | i
                · exact ht
                rcases i with _ | i
                · exact ht
                rcases i with _ | i
                · exact ht
                rcases i with _ | i
                · exact ht
                rcases i with _ | i
                · exact ht
                rcases i with _ | i
                · exact ht
                rcases i with _ | i
                · exact ht
                exact trivial
              case step =>
                intro i o ho ρ y x hBx hdep hout
                rcases i with _ | i
                · obtain rfl := Option.some.inj ho
                  have o9 : ρ (.tmp 9) = Value.pointer (some { block := x5.heap.size, off := 0 }) := hout (.tmp 9) rfl
                  have ocn : ∀ v, ρ (.const v) = v := fun v => hout (.const v) rfl
                  have ofn : ∀ f, ρ (.func f) = .func (.func f) #[] #[] := fun f => hout (.func f) rfl
                  clear hdep hout
                  refine .inl ⟨?_, ?_⟩
                  · rfl
                  obtain ⟨_, cc0, cc1, cc2, cc3, cc4, _⟩ := (P5.out.later hBx).box
                  show GivesP _ _ _ (fun v _ => v = .agg #[.bool ra, .slice p5 n5 cap5, .bool rc, .int .i64 rl, .int .i64 ru]) _
                  refine GivesP.val (.agg #[.bool ra, .slice p5 n5 cap5, .bool rc, .int .i64 rl, .int .i64 ru]) rfl ?_
                  go_simp
                rcases i with _ | i
                · obtain rfl := Option.some.inj ho
                  have o10 : ρ (.tmp 10) = Value.pointer (some { block := x6.heap.size, off := 0 }) := hout (.tmp 10) rfl
                  have ocn : ∀ v, ρ (.const v) = v := fun v => hout (.const v) rfl
                  have ofn : ∀ f, ρ (.func f) = .func (.func f) #[] #[] := fun f => hout (.func f) rfl
                  clear hdep hout
                  refine .inl ⟨?_, ?_⟩
                  · rfl
                  obtain ⟨_, cc0, cc1, cc2, cc3, cc4, _⟩ := (P6.out.later hBx).box
                  show GivesP _ _ _ (fun v _ => v = .agg #[.bool ba, .slice p6 n6 cap6, .bool bc, .int .i64 bl, .int .i64 bu]) _
                  refine GivesP.val (.agg #[.bool ba, .slice p6 n6 cap6, .bool bc, .int .i64 bl, .int .i64 bu]) rfl ?_
                  go_simp
                rcases i with _ | i
                · obtain rfl := Option.some.inj ho
                  have e0 : ρ (.tmp 87) = .agg #[.bool ra, .slice p5 n5 cap5, .bool rc, .int .i64 rl, .int .i64 ru] := (hdep ⟨0, .data⟩ (by simp) rfl 87 rfl).1
                  have e1 : ρ (.tmp 88) = .agg #[.bool ba, .slice p6 n6 cap6, .bool bc, .int .i64 bl, .int .i64 bu] := (hdep ⟨1, .data⟩ (by simp) rfl 88 rfl).1
                  have ocn : ∀ v, ρ (.const v) = v := fun v => hout (.const v) rfl
                  have ofn : ∀ f, ρ (.func f) = .func (.func f) #[] #[] := fun f => hout (.func f) rfl
                  clear hdep hout
                  refine .inl ⟨?_, ?_⟩
                  · rfl
                  show GivesP _ _ _ (fun v _ => v = .bool true) _
                  refine GivesP.call ((stIn_impl x true true _ _ _ _ _ _ rL _ _ _ _ _ bL _ _ _ (P5.out.later hBx).row (P6.out.later hBx).row).mono fun e w9 h9 => ⟨_, h9.1, by rw [HFB.out], h9.2⟩) ?_
                  go_simp
                rcases i with _ | i
                · obtain rfl := Option.some.inj ho
                  have e2 : ρ (.tmp 89) = .bool true := (hdep ⟨2, .data⟩ (by simp) rfl 89 rfl).1
                  have ocn : ∀ v, ρ (.const v) = v := fun v => hout (.const v) rfl
                  have ofn : ∀ f, ρ (.func f) = .func (.func f) #[] #[] := fun f => hout (.func f) rfl
                  clear hdep hout
                  refine .inl ⟨?_, ?_⟩
                  · rfl
                  show GivesP _ _ _ (fun v _ => v = .bool true) _
                  refine GivesP.val (.bool true) rfl ?_
                  go_simp
                rcases i with _ | i
                · obtain rfl := Option.some.inj ho
                  have o10 : ρ (.tmp 10) = Value.pointer (some { block := x6.heap.size, off := 0 }) := hout (.tmp 10) rfl
                  have eg : ρ (.tmp 90) = .bool true := (hdep ⟨3, .guard⟩ (by simp) rfl 90 rfl).1
                  have yg : y 3 = some true := (hdep ⟨3, .guard⟩ (by simp) rfl 90 rfl).2.trans (by rw [eg]; rfl)
                  have ocn : ∀ v, ρ (.const v) = v := fun v => hout (.const v) rfl
                  have ofn : ∀ f, ρ (.func f) = .func (.func f) #[] #[] := fun f => hout (.func f) rfl
                  clear hdep hout
                  refine .inl ⟨?_, ?_⟩
                  · show (y 3 == some true) = true
                    rw [yg]; rfl
                  obtain ⟨_, cc0, cc1, cc2, cc3, cc4, _⟩ := (P6.out.later hBx).box
                  show GivesP _ _ _ (fun v _ => v = .agg #[.bool ba, .slice p6 n6 cap6, .bool bc, .int .i64 bl, .int .i64 bu]) _
                  refine GivesP.val (.agg #[.bool ba, .slice p6 n6 cap6, .bool bc, .int .i64 bl, .int .i64 bu]) rfl ?_
                  go_simp
                rcases i with _ | i
                · obtain rfl := Option.some.inj ho
                  have o5 : ρ (.tmp 5) = Value.pointer (some { block := x1.heap.size, off := 0 }) := hout (.tmp 5) rfl
                  have eg : ρ (.tmp 90) = .bool true := (hdep ⟨3, .guard⟩ (by simp) rfl 90 rfl).1
                  have yg : y 3 = some true := (hdep ⟨3, .guard⟩ (by simp) rfl 90 rfl).2.trans (by rw [eg]; rfl)
                  have ocn : ∀ v, ρ (.const v) = v := fun v => hout (.const v) rfl
                  have ofn : ∀ f, ρ (.func f) = .func (.func f) #[] #[] := fun f => hout (.func f) rfl
                  clear hdep hout
                  refine .inl ⟨?_, ?_⟩
                  · show (y 3 == some true) = true
                    rw [yg]; rfl
                  obtain ⟨_, cc0, cc1, cc2, cc3, cc4, _⟩ := (P1.out.later hBx).box
                  show GivesP _ _ _ (fun v _ => v = .agg #[.bool a1, .slice p1 n1 cap1, .bool c1, .int .i64 l1, .int .i64 u1]) _
                  refine GivesP.val (.agg #[.bool a1, .slice p1 n1 cap1, .bool c1, .int .i64 l1, .int .i64 u1]) rfl ?_
                  go_simp
                rcases i with _ | i
                · obtain rfl := Option.some.inj ho
                  have o6 : ρ (.tmp 6) = Value.pointer (some { block := x1.heap.size + 1, off := 0 }) := hout (.tmp 6) rfl
                  have eg : ρ (.tmp 90) = .bool true := (hdep ⟨3, .guard⟩ (by simp) rfl 90 rfl).1
                  have yg : y 3 = some true := (hdep ⟨3, .guard⟩ (by simp) rfl 90 rfl).2.trans (by rw [eg]; rfl)
                  have ocn : ∀ v, ρ (.const v) = v := fun v => hout (.const v) rfl
                  have ofn : ∀ f, ρ (.func f) = .func (.func f) #[] #[] := fun f => hout (.func f) rfl
                  clear hdep hout
                  refine .inl ⟨?_, ?_⟩
                  · show (y 3 == some true) = true
                    rw [yg]; rfl
                  obtain ⟨_, cc0, cc1, cc2, cc3, cc4, _⟩ := (P2.out.later hBx).box
                  show GivesP _ _ _ (fun v _ => v = .agg #[.bool a2, .slice p2 n2 cap2, .bool c2, .int .i64 l2, .int .i64 u2]) _
                  refine GivesP.val (.agg #[.bool a2, .slice p2 n2 cap2, .bool c2, .int .i64 l2, .int .i64 u2]) rfl ?_
                  go_simp
                rcases i with _ | i
                · obtain rfl := Option.some.inj ho
                  have o7 : ρ (.tmp 7) = Value.pointer (some { block := x3.heap.size, off := 0 }) := hout (.tmp 7) rfl
                  have eg : ρ (.tmp 90) = .bool true := (hdep ⟨3, .guard⟩ (by simp) rfl 90 rfl).1
                  have yg : y 3 = some true := (hdep ⟨3, .guard⟩ (by simp) rfl 90 rfl).2.trans (by rw [eg]; rfl)
                  have ocn : ∀ v, ρ (.const v) = v := fun v => hout (.const v) rfl
                  have ofn : ∀ f, ρ (.func f) = .func (.func f) #[] #[] := fun f => hout (.func f) rfl
                  clear hdep hout
                  refine .inl ⟨?_, ?_⟩
                  · show (y 3 == some true) = true
                    rw [yg]; rfl
                  obtain ⟨_, cc0, cc1, cc2, cc3, cc4, _⟩ := (P3.out.later hBx).box
                  show GivesP _ _ _ (fun v _ => v = .agg #[.bool a3, .slice p3 n3 cap3, .bool c3, .int .i64 l3, .int .i64 u3]) _
                  refine GivesP.val (.agg #[.bool a3, .slice p3 n3 cap3, .bool c3, .int .i64 l3, .int .i64 u3]) rfl ?_
                  go_simp
                rcases i with _ | i
                · obtain rfl := Option.some.inj ho
                  have e6 : ρ (.tmp 93) = .agg #[.bool a2, .slice p2 n2 cap2, .bool c2, .int .i64 l2, .int .i64 u2] := (hdep ⟨6, .data⟩ (by simp) rfl 93 rfl).1
                  have e7 : ρ (.tmp 94) = .agg #[.bool a3, .slice p3 n3 cap3, .bool c3, .int .i64 l3, .int .i64 u3] := (hdep ⟨7, .data⟩ (by simp) rfl 94 rfl).1
                  have eg : ρ (.tmp 90) = .bool true := (hdep ⟨3, .guard⟩ (by simp) rfl 90 rfl).1
                  have yg : y 3 = some true := (hdep ⟨3, .guard⟩ (by simp) rfl 90 rfl).2.trans (by rw [eg]; rfl)
                  have ocn : ∀ v, ρ (.const v) = v := fun v => hout (.const v) rfl
                  have ofn : ∀ f, ρ (.func f) = .func (.func f) #[] #[] := fun f => hout (.func f) rfl
                  clear hdep hout
                  refine .inl ⟨?_, ?_⟩
                  · show (y 3 == some true) = true
                    rw [yg]; rfl
                  show GivesP _ _ _ (fun v x => StV (ka, kL, kc, kl, ku) v x) _
                  refine GivesP.call ((stJoin_impl x true true _ _ _ _ _ _ L2 _ _ _ _ _ L3 _ _ _ (P2.out.later hBx).row (P3.out.later hBx).row).mono fun e w9 h9 => stV_of h9 HKK.out) ?_
                  go_simp
                rcases i with _ | i
                · obtain rfl := Option.some.inj ho
                  have e5 : ρ (.tmp 92) = .agg #[.bool a1, .slice p1 n1 cap1, .bool c1, .int .i64 l1, .int .i64 u1] := (hdep ⟨5, .data⟩ (by simp) rfl 92 rfl).1
                  have t8 : StV (ka, kL, kc, kl, ku) (ρ (.tmp 95)) x := (hdep ⟨8, .data⟩ (by simp) rfl 95 rfl).1
                  obtain ⟨q8, k8, B8, E8, e8, s8⟩ := t8
                  have eg : ρ (.tmp 90) = .bool true := (hdep ⟨3, .guard⟩ (by simp) rfl 90 rfl).1
                  have yg : y 3 = some true := (hdep ⟨3, .guard⟩ (by simp) rfl 90 rfl).2.trans (by rw [eg]; rfl)
                  have ocn : ∀ v, ρ (.const v) = v := fun v => hout (.const v) rfl
                  have ofn : ∀ f, ρ (.func f) = .func (.func f) #[] #[] := fun f => hout (.func f) rfl
                  clear hdep hout
                  refine .inl ⟨?_, ?_⟩
                  · show (y 3 == some true) = true
                    rw [yg]; rfl
                  show GivesP _ _ _ (fun v x => StV (ba, bL, bc, bl, bu) v x) _
                  refine GivesP.call ((stJoin_impl x true true _ _ _ _ _ _ L1 _ _ _ _ _ kL _ _ _ (P1.out.later hBx).row s8).mono fun e w9 h9 => stV_of h9 HAS.out) ?_
                  go_simp
                rcases i with _ | i
                · obtain rfl := Option.some.inj ho
                  have e4 : ρ (.tmp 91) = .agg #[.bool ba, .slice p6 n6 cap6, .bool bc, .int .i64 bl, .int .i64 bu] := (hdep ⟨4, .data⟩ (by simp) rfl 91 rfl).1
                  have t9 : StV (ba, bL, bc, bl, bu) (ρ (.tmp 96)) x := (hdep ⟨9, .data⟩ (by simp) rfl 96 rfl).1
                  obtain ⟨q9, k9, B9, E9, e9, s9⟩ := t9
                  have eg : ρ (.tmp 90) = .bool true := (hdep ⟨3, .guard⟩ (by simp) rfl 90 rfl).1
                  have yg : y 3 = some true := (hdep ⟨3, .guard⟩ (by simp) rfl 90 rfl).2.trans (by rw [eg]; rfl)
                  have ocn : ∀ v, ρ (.const v) = v := fun v => hout (.const v) rfl
                  have ofn : ∀ f, ρ (.func f) = .func (.func f) #[] #[] := fun f => hout (.func f) rfl
                  clear hdep hout
                  refine .inl ⟨?_, ?_⟩
                  · show (y 3 == some true) = true
                    rw [yg]; rfl
                  show GivesP _ _ _ (fun v _ => v = .bool true) _
                  refine GivesP.call ((lgState_same x true true _ _ _ _ ba _ _ bL bc bl bu (P6.out.later hBx).row s9).mono fun e w9 h9 => ⟨_, h9.1, rfl, h9.2⟩) ?_
                  go_simp
                rcases i with _ | i
                · obtain rfl := Option.some.inj ho
                  have e3 : ρ (.tmp 90) = .bool true := (hdep ⟨3, .data⟩ (by simp) rfl 90 rfl).1
                  have e10 : ρ (.tmp 97) = .bool true := (hdep ⟨10, .data⟩ (by simp) rfl 97 rfl).1
                  have ocn : ∀ v, ρ (.const v) = v := fun v => hout (.const v) rfl
                  have ofn : ∀ f, ρ (.func f) = .func (.func f) #[] #[] := fun f => hout (.func f) rfl
                  clear hdep hout
                  refine .inl ⟨?_, ?_⟩
                  · rfl
                  show GivesP _ _ _ (fun v _ => v = .bool true) _
                  refine GivesP.val (.bool true) rfl ?_
                  go_simp
                rcases i with _ | i
                · obtain rfl := Option.some.inj ho
                  have e11 : ρ (.tmp 98) = .bool true := (hdep ⟨11, .data⟩ (by simp) rfl 98 rfl).1
                  have ocn : ∀ v, ρ (.const v) = v := fun v => hout (.const v) rfl
                  have ofn : ∀ f, ρ (.func f) = .func (.func f) #[] #[] := fun f => hout (.func f) rfl
                  clear hdep hout
                  refine .inl ⟨?_, ?_⟩
                  · rfl
                  show GivesP _ _ _ (fun v _ => v = .bool true) _
                  refine GivesP.val (.bool true) rfl ?_
                  go_simp
                rcases i with _ | i
                · obtain rfl := Option.some.inj ho
                  have o5 : ρ (.tmp 5) = Value.pointer (some { block := x1.heap.size, off := 0 }) := hout (.tmp 5) rfl
                  have eg : ρ (.tmp 99) = .bool true := (hdep ⟨12, .guard⟩ (by simp) rfl 99 rfl).1
                  have yg : y 12 = some true := (hdep ⟨12, .guard⟩ (by simp) rfl 99 rfl).2.trans (by rw [eg]; rfl)
                  have ocn : ∀ v, ρ (.const v) = v := fun v => hout (.const v) rfl
                  have ofn : ∀ f, ρ (.func f) = .func (.func f) #[] #[] := fun f => hout (.func f) rfl
                  clear hdep hout
                  refine .inl ⟨?_, ?_⟩
                  · show (y 12 == some true) = true
                    rw [yg]; rfl
                  obtain ⟨_, cc0, cc1, cc2, cc3, cc4, _⟩ := (P1.out.later hBx).box
                  show GivesP _ _ _ (fun v _ => v = .agg #[.bool a1, .slice p1 n1 cap1, .bool c1, .int .i64 l1, .int .i64 u1]) _
                  refine GivesP.val (.agg #[.bool a1, .slice p1 n1 cap1, .bool c1, .int .i64 l1, .int .i64 u1]) rfl ?_
                  go_simp
                rcases i with _ | i
                · obtain rfl := Option.some.inj ho
                  have o7 : ρ (.tmp 7) = Value.pointer (some { block := x3.heap.size, off := 0 }) := hout (.tmp 7) rfl
                  have eg : ρ (.tmp 99) = .bool true := (hdep ⟨12, .guard⟩ (by simp) rfl 99 rfl).1
                  have yg : y 12 = some true := (hdep ⟨12, .guard⟩ (by simp) rfl 99 rfl).2.trans (by rw [eg]; rfl)
                  have ocn : ∀ v, ρ (.const v) = v := fun v => hout (.const v) rfl
                  have ofn : ∀ f, ρ (.func f) = .func (.func f) #[] #[] := fun f => hout (.func f) rfl
                  clear hdep hout
                  refine .inl ⟨?_, ?_⟩
                  · show (y 12 == some true) = true
                    rw [yg]; rfl
                  obtain ⟨_, cc0, cc1, cc2, cc3, cc4, _⟩ := (P3.out.later hBx).box
                  show GivesP _ _ _ (fun v _ => v = .agg #[.bool a3, .slice p3 n3 cap3, .bool c3, .int .i64 l3, .int .i64 u3]) _
                  refine GivesP.val (.agg #[.bool a3, .slice p3 n3 cap3, .bool c3, .int .i64 l3, .int .i64 u3]) rfl ?_
                  go_simp
                rcases i with _ | i
                · obtain rfl := Option.some.inj ho
                  have e13 : ρ (.tmp 100) = .agg #[.bool a1, .slice p1 n1 cap1, .bool c1, .int .i64 l1, .int .i64 u1] := (hdep ⟨13, .data⟩ (by simp) rfl 100 rfl).1
                  have e14 : ρ (.tmp 101) = .agg #[.bool a3, .slice p3 n3 cap3, .bool c3, .int .i64 l3, .int .i64 u3] := (hdep ⟨14, .data⟩ (by simp) rfl 101 rfl).1
                  have eg : ρ (.tmp 99) = .bool true := (hdep ⟨12, .guard⟩ (by simp) rfl 99 rfl).1
                  have yg : y 12 = some true := (hdep ⟨12, .guard⟩ (by simp) rfl 99 rfl).2.trans (by rw [eg]; rfl)
                  have ocn : ∀ v, ρ (.const v) = v := fun v => hout (.const v) rfl
                  have ofn : ∀ f, ρ (.func f) = .func (.func f) #[] #[] := fun f => hout (.func f) rfl
                  clear hdep hout
                  refine .inl ⟨?_, ?_⟩
                  · show (y 12 == some true) = true
                    rw [yg]; rfl
                  show GivesP _ _ _ (fun v _ => v = .bool true) _
                  refine GivesP.call ((stIn_impl x true true _ _ _ _ _ _ L1 _ _ _ _ _ L3 _ _ _ (P1.out.later hBx).row (P3.out.later hBx).row).mono fun e w9 h9 => ⟨_, h9.1, by rw [HG1.out], h9.2⟩) ?_
                  go_simp
                rcases i with _ | i
                · obtain rfl := Option.some.inj ho
                  have e15 : ρ (.tmp 102) = .bool true := (hdep ⟨15, .data⟩ (by simp) rfl 102 rfl).1
                  have eg : ρ (.tmp 99) = .bool true := (hdep ⟨12, .guard⟩ (by simp) rfl 99 rfl).1
                  have yg : y 12 = some true := (hdep ⟨12, .guard⟩ (by simp) rfl 99 rfl).2.trans (by rw [eg]; rfl)
                  have ocn : ∀ v, ρ (.const v) = v := fun v => hout (.const v) rfl
                  have ofn : ∀ f, ρ (.func f) = .func (.func f) #[] #[] := fun f => hout (.func f) rfl
                  clear hdep hout
                  refine .inl ⟨?_, ?_⟩
                  · show (y 12 == some true) = true
                    rw [yg]; rfl
                  show GivesP _ _ _ (fun v _ => v = .bool true) _
                  refine GivesP.val (.bool true) rfl ?_
                  go_simp
                rcases i with _ | i
                · obtain rfl := Option.some.inj ho
                  have o6 : ρ (.tmp 6) = Value.pointer (some { block := x1.heap.size + 1, off := 0 }) := hout (.tmp 6) rfl
                  have eg : ρ (.tmp 103) = .bool true := (hdep ⟨16, .guard⟩ (by simp) rfl 103 rfl).1
                  have yg : y 16 = some true := (hdep ⟨16, .guard⟩ (by simp) rfl 103 rfl).2.trans (by rw [eg]; rfl)
                  have ocn : ∀ v, ρ (.const v) = v := fun v => hout (.const v) rfl
                  have ofn : ∀ f, ρ (.func f) = .func (.func f) #[] #[] := fun f => hout (.func f) rfl
                  clear hdep hout
                  refine .inl ⟨?_, ?_⟩
                  · show (y 16 == some true) = true
                    rw [yg]; rfl
                  obtain ⟨_, cc0, cc1, cc2, cc3, cc4, _⟩ := (P2.out.later hBx).box
                  show GivesP _ _ _ (fun v _ => v = .agg #[.bool a2, .slice p2 n2 cap2, .bool c2, .int .i64 l2, .int .i64 u2]) _
                  refine GivesP.val (.agg #[.bool a2, .slice p2 n2 cap2, .bool c2, .int .i64 l2, .int .i64 u2]) rfl ?_
                  go_simp
                rcases i with _ | i
                · obtain rfl := Option.some.inj ho
                  have o7 : ρ (.tmp 7) = Value.pointer (some { block := x3.heap.size, off := 0 }) := hout (.tmp 7) rfl
                  have eg : ρ (.tmp 103) = .bool true := (hdep ⟨16, .guard⟩ (by simp) rfl 103 rfl).1
                  have yg : y 16 = some true := (hdep ⟨16, .guard⟩ (by simp) rfl 103 rfl).2.trans (by rw [eg]; rfl)
                  have ocn : ∀ v, ρ (.const v) = v := fun v => hout (.const v) rfl
                  have ofn : ∀ f, ρ (.func f) = .func (.func f) #[] #[] := fun f => hout (.func f) rfl
                  clear hdep hout
                  refine .inl ⟨?_, ?_⟩
                  · show (y 16 == some true) = true
                    rw [yg]; rfl
                  obtain ⟨_, cc0, cc1, cc2, cc3, cc4, _⟩ := (P3.out.later hBx).box
                  show GivesP _ _ _ (fun v _ => v = .agg #[.bool a3, .slice p3 n3 cap3, .bool c3, .int .i64 l3, .int .i64 u3]) _
                  refine GivesP.val (.agg #[.bool a3, .slice p3 n3 cap3, .bool c3, .int .i64 l3, .int .i64 u3]) rfl ?_
                  go_simp
                rcases i with _ | i
                · obtain rfl := Option.some.inj ho
                  have e17 : ρ (.tmp 104) = .agg #[.bool a2, .slice p2 n2 cap2, .bool c2, .int .i64 l2, .int .i64 u2] := (hdep ⟨17, .data⟩ (by simp) rfl 104 rfl).1
                  have e18 : ρ (.tmp 105) = .agg #[.bool a3, .slice p3 n3 cap3, .bool c3, .int .i64 l3, .int .i64 u3] := (hdep ⟨18, .data⟩ (by simp) rfl 105 rfl).1
                  have eg : ρ (.tmp 103) = .bool true := (hdep ⟨16, .guard⟩ (by simp) rfl 103 rfl).1
                  have yg : y 16 = some true := (hdep ⟨16, .guard⟩ (by simp) rfl 103 rfl).2.trans (by rw [eg]; rfl)
                  have ocn : ∀ v, ρ (.const v) = v := fun v => hout (.const v) rfl
                  have ofn : ∀ f, ρ (.func f) = .func (.func f) #[] #[] := fun f => hout (.func f) rfl
                  clear hdep hout
                  refine .inl ⟨?_, ?_⟩
                  · show (y 16 == some true) = true
                    rw [yg]; rfl
                  show GivesP _ _ _ (fun v _ => v = .bool true) _
                  refine GivesP.call ((stIn_impl x true true _ _ _ _ _ _ L2 _ _ _ _ _ L3 _ _ _ (P2.out.later hBx).row (P3.out.later hBx).row).mono fun e w9 h9 => ⟨_, h9.1, by rw [HG2.out], h9.2⟩) ?_
                  go_simp
                rcases i with _ | i
                · obtain rfl := Option.some.inj ho
                  have e16 : ρ (.tmp 103) = .bool true := (hdep ⟨16, .data⟩ (by simp) rfl 103 rfl).1
                  have e19 : ρ (.tmp 106) = .bool true := (hdep ⟨19, .data⟩ (by simp) rfl 106 rfl).1
                  have eg : ρ (.tmp 99) = .bool true := (hdep ⟨12, .guard⟩ (by simp) rfl 99 rfl).1
                  have yg : y 12 = some true := (hdep ⟨12, .guard⟩ (by simp) rfl 99 rfl).2.trans (by rw [eg]; rfl)
                  have ocn : ∀ v, ρ (.const v) = v := fun v => hout (.const v) rfl
                  have ofn : ∀ f, ρ (.func f) = .func (.func f) #[] #[] := fun f => hout (.func f) rfl
                  clear hdep hout
                  refine .inl ⟨?_, ?_⟩
                  · show (y 12 == some true) = true
                    rw [yg]; rfl
                  show GivesP _ _ _ (fun v _ => v = .bool true) _
                  refine GivesP.val (.bool true) rfl ?_
                  go_simp
                rcases i with _ | i
                · obtain rfl := Option.some.inj ho
                  have e20 : ρ (.tmp 107) = .bool true := (hdep ⟨20, .data⟩ (by simp) rfl 107 rfl).1
                  have eg : ρ (.tmp 99) = .bool true := (hdep ⟨12, .guard⟩ (by simp) rfl 99 rfl).1
                  have yg : y 12 = some true := (hdep ⟨12, .guard⟩ (by simp) rfl 99 rfl).2.trans (by rw [eg]; rfl)
                  have ocn : ∀ v, ρ (.const v) = v := fun v => hout (.const v) rfl
                  have ofn : ∀ f, ρ (.func f) = .func (.func f) #[] #[] := fun f => hout (.func f) rfl
                  clear hdep hout
                  refine .inl ⟨?_, ?_⟩
                  · show (y 12 == some true) = true
                    rw [yg]; rfl
                  show GivesP _ _ _ (fun v _ => v = .bool false) _
                  refine GivesP.val (.bool false) rfl ?_
                  go_simp
                rcases i with _ | i
                · obtain rfl := Option.some.inj ho
                  have e21 : ρ (.tmp 108) = .bool false := (hdep ⟨21, .data⟩ (by simp) rfl 108 rfl).1
                  have eg : ρ (.tmp 99) = .bool true := (hdep ⟨12, .guard⟩ (by simp) rfl 99 rfl).1
                  have yg : y 12 = some true := (hdep ⟨12, .guard⟩ (by simp) rfl 99 rfl).2.trans (by rw [eg]; rfl)
                  have ocn : ∀ v, ρ (.const v) = v := fun v => hout (.const v) rfl
                  have ofn : ∀ f, ρ (.func f) = .func (.func f) #[] #[] := fun f => hout (.func f) rfl
                  clear hdep hout
                  refine .inl ⟨?_, ?_⟩
                  · show (y 12 == some true) = true
                    rw [yg]; rfl
                  show GivesP _ _ _ (fun v _ => v = .bool false) _
                  refine GivesP.val (.bool false) rfl ?_
                  go_simp
                rcases i with _ | i
                · obtain rfl := Option.some.inj ho
                  have o9 : ρ (.tmp 9) = Value.pointer (some { block := x5.heap.size, off := 0 }) := hout (.tmp 9) rfl
                  have eg : ρ (.tmp 109) = .bool false := (hdep ⟨22, .guard⟩ (by simp) rfl 109 rfl).1
                  have yg : y 22 = some false := (hdep ⟨22, .guard⟩ (by simp) rfl 109 rfl).2.trans (by rw [eg]; rfl)
                  have ocn : ∀ v, ρ (.const v) = v := fun v => hout (.const v) rfl
                  have ofn : ∀ f, ρ (.func f) = .func (.func f) #[] #[] := fun f => hout (.func f) rfl
                  clear hdep hout
                  refine .inl ⟨?_, ?_⟩
                  · show (y 22 == some false) = true
                    rw [yg]; rfl
                  obtain ⟨_, cc0, cc1, cc2, cc3, cc4, _⟩ := (P5.out.later hBx).box
                  show GivesP _ _ _ (fun v _ => v = .agg #[.bool ra, .slice p5 n5 cap5, .bool rc, .int .i64 rl, .int .i64 ru]) _
                  refine GivesP.val (.agg #[.bool ra, .slice p5 n5 cap5, .bool rc, .int .i64 rl, .int .i64 ru]) rfl ?_
                  go_simp
                rcases i with _ | i
                · obtain rfl := Option.some.inj ho
                  have o7 : ρ (.tmp 7) = Value.pointer (some { block := x3.heap.size, off := 0 }) := hout (.tmp 7) rfl
                  have eg : ρ (.tmp 109) = .bool false := (hdep ⟨22, .guard⟩ (by simp) rfl 109 rfl).1
                  have yg : y 22 = some false := (hdep ⟨22, .guard⟩ (by simp) rfl 109 rfl).2.trans (by rw [eg]; rfl)
                  have ocn : ∀ v, ρ (.const v) = v := fun v => hout (.const v) rfl
                  have ofn : ∀ f, ρ (.func f) = .func (.func f) #[] #[] := fun f => hout (.func f) rfl
                  clear hdep hout
                  refine .inl ⟨?_, ?_⟩
                  · show (y 22 == some false) = true
                    rw [yg]; rfl
                  obtain ⟨_, cc0, cc1, cc2, cc3, cc4, _⟩ := (P3.out.later hBx).box
                  show GivesP _ _ _ (fun v _ => v = .agg #[.bool a3, .slice p3 n3 cap3, .bool c3, .int .i64 l3, .int .i64 u3]) _
                  refine GivesP.val (.agg #[.bool a3, .slice p3 n3 cap3, .bool c3, .int .i64 l3, .int .i64 u3]) rfl ?_
                  go_simp
                rcases i with _ | i
                · obtain rfl := Option.some.inj ho
                  have e23 : ρ (.tmp 110) = .agg #[.bool ra, .slice p5 n5 cap5, .bool rc, .int .i64 rl, .int .i64 ru] := (hdep ⟨23, .data⟩ (by simp) rfl 110 rfl).1
                  have e24 : ρ (.tmp 111) = .agg #[.bool a3, .slice p3 n3 cap3, .bool c3, .int .i64 l3, .int .i64 u3] := (hdep ⟨24, .data⟩ (by simp) rfl 111 rfl).1
                  have eg : ρ (.tmp 109) = .bool false := (hdep ⟨22, .guard⟩ (by simp) rfl 109 rfl).1
                  have yg : y 22 = some false := (hdep ⟨22, .guard⟩ (by simp) rfl 109 rfl).2.trans (by rw [eg]; rfl)
                  have ocn : ∀ v, ρ (.const v) = v := fun v => hout (.const v) rfl
                  have ofn : ∀ f, ρ (.func f) = .func (.func f) #[] #[] := fun f => hout (.func f) rfl
                  clear hdep hout
                  refine .inl ⟨?_, ?_⟩
                  · show (y 22 == some false) = true
                    rw [yg]; rfl
                  show GivesP _ _ _ (fun v _ => v = .bool true) _
                  refine GivesP.call ((stIn_impl x true true _ _ _ _ _ _ rL _ _ _ _ _ L3 _ _ _ (P5.out.later hBx).row (P3.out.later hBx).row).mono fun e w9 h9 => ⟨_, h9.1, by rw [stJ_lub HAo.out HBo.out HCo.out HR.out HG1.out HG2.out], h9.2⟩) ?_
                  go_simp
                rcases i with _ | i
                · obtain rfl := Option.some.inj ho
                  have e22 : ρ (.tmp 109) = .bool false := (hdep ⟨22, .data⟩ (by simp) rfl 109 rfl).1
                  have e25 : ρ (.tmp 112) = .bool true := (hdep ⟨25, .data⟩ (by simp) rfl 112 rfl).1
                  have eg : ρ (.tmp 99) = .bool true := (hdep ⟨12, .guard⟩ (by simp) rfl 99 rfl).1
                  have yg : y 12 = some true := (hdep ⟨12, .guard⟩ (by simp) rfl 99 rfl).2.trans (by rw [eg]; rfl)
                  have ocn : ∀ v, ρ (.const v) = v := fun v => hout (.const v) rfl
                  have ofn : ∀ f, ρ (.func f) = .func (.func f) #[] #[] := fun f => hout (.func f) rfl
                  clear hdep hout
                  refine .inl ⟨?_, ?_⟩
                  · show (y 12 == some true) = true
                    rw [yg]; rfl
                  show GivesP _ _ _ (fun v _ => v = .bool true) _
                  refine GivesP.val (.bool true) rfl ?_
                  go_simp
                rcases i with _ | i
                · obtain rfl := Option.some.inj ho
                  have e12 : ρ (.tmp 99) = .bool true := (hdep ⟨12, .data⟩ (by simp) rfl 99 rfl).1
                  have e26 : ρ (.tmp 113) = .bool true := (hdep ⟨26, .data⟩ (by simp) rfl 113 rfl).1
                  have ocn : ∀ v, ρ (.const v) = v := fun v => hout (.const v) rfl
                  have ofn : ∀ f, ρ (.func f) = .func (.func f) #[] #[] := fun f => hout (.func f) rfl
                  clear hdep hout
                  refine .inl ⟨?_, ?_⟩
                  · rfl
                  show GivesP _ _ _ (fun v _ => v = .bool true) _
                  refine GivesP.val (.bool true) rfl ?_
                  go_simp
                rcases i with _ | i
                · obtain rfl := Option.some.inj ho
                  have e27 : ρ (.tmp 114) = .bool true := (hdep ⟨27, .data⟩ (by simp) rfl 114 rfl).1
                  have ocn : ∀ v, ρ (.const v) = v := fun v => hout (.const v) rfl
                  have ofn : ∀ f, ρ (.func f) = .func (.func f) #[] #[] := fun f => hout (.func f) rfl
                  clear hdep hout
                  refine .inl ⟨?_, ?_⟩
                  · rfl
                  show GivesP _ _ _ (fun v _ => v = .bool true) _
                  refine GivesP.val (.bool true) rfl ?_
                  go_simp
                cases ho
              case fin =>
                intro V x hBx hV
                have ev : V 28 = .bool true := hV 28 (by simp)
                clear hV
                go_wp2_with fail
                go_meet
                exact ⟨ev, HB.out.trans (hBx.mono HB.out.size), P1.out.later hBx, P2.out.later hBx, P3.out.later hBx, P5.out.later hBx, P6.out.later hBx⟩
            case rest =>
            rename World => z11
            clear HB P1 P2 P3 P5 P6
            obtain ⟨rfl, HB, P1, P2, P3, P5, P6⟩ := hcut
            go_wp2_with fail
            go_ret
            exact ⟨rfl, HB.out⟩
end Go.Proofs.Ytdomalclpjijaaa
