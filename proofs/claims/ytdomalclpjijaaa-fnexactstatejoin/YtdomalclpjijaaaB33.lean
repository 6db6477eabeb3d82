import Derived.Test.YtdomalclpjijaaaB32
import Derived.Test.YtdomalclpjijaaaB4
import Derived.Deep.Slices
import Derived.Deep.Strs
import Derived.Lib.SmallJoins
import Derived.WideShapes
/-
  The walk of the law FnExactStateJoin.
-/
namespace Go.Proofs.Ytdomalclpjijaaa
open Go.RowKit
set_option linter.unusedVariables false
set_option linter.unusedSimpArgs false

set_option maxRecDepth 100000 in
set_option maxHeartbeats 8000000 in
theorem exactStateJoin_walk (a : Bool) (v : Value) (L : List Sp) (c : Bool) (l u : Int) (b : Bool) (v' : Value) (M : List Sp) (d : Bool) (l' u' : Int) (w : World) (h : SpsAt false w 0 w.heap.size v L) (h' : SpsAt false w 0 w.heap.size v' M) :
    Calls Try.prog 3 #[.agg #[.bool a, v, .bool c, .int .i64 l, .int .i64 u], .agg #[.bool b, v', .bool d, .int .i64 l', .int .i64 u']] w fun e w' => e = .returned (.bool true) ∧ Below w.heap.size w w' := by
  have HMx : Hid (L.length ≤ maxLen) := by obtain ⟨_, _, _, hm, _⟩ := h; exact hm
  have HMx' : Hid (M.length ≤ maxLen) := by obtain ⟨_, _, _, hm, _⟩ := h'; exact hm
  obtain ⟨p, cap, hv⟩ := h.shape
  obtain ⟨p', cap', hv'⟩ := h'.shape
  generalize hL : L.length = n at hv HMx
  generalize hM : M.length = m at hv' HMx'
  have HL : Hid (L.length = n) := hL
  have HM : Hid (M.length = m) := hM
  clear hL hM
  subst hv hv'
  have hB := Below.refl w.heap.size w
  go_enter Try.func3, Try.ntmps3
  go_wp2_with fail
  have hba := ((Below.refl w.heap.size w).alloc (Nat.le_refl _) (.cells #[.bool a, .slice p n cap, .bool c, .int .i64 l, .int .i64 u] 26)).alloc (by simp) (.cells #[.bool b, .slice p' m cap', .bool d, .int .i64 l', .int .i64 u'] 26)
  replace hB := hB.trans hba
  have ba := (Bx5.new w (.bool a) (.slice p n cap) (.bool c) (.int .i64 l) (.int .i64 u) 26).alloc (.cells #[.bool b, .slice p' m cap', .bool d, .int .i64 l', .int .i64 u'] 26)
  have bb := Bx5.new (w.alloc (.cells #[.bool a, .slice p n cap, .bool c, .int .i64 l, .int .i64 u] 26)) (.bool b) (.slice p' m cap') (.bool d) (.int .i64 l') (.int .i64 u') 26
  simp only [World.size_alloc] at bb
  clear hba
  refine (szState_any _ _ _ _ _ _ _ _ _ (by omega) (by omega) HMx.out).mono ?_
  rintro e w1 ⟨rfl, hb⟩
  replace hB := hB.trans (hb.mono hB.size)
  replace ba := ba.later hb
  replace bb := bb.later hb
  clear hb
  obtain ⟨_, ba0, ba1, ba2, ba3, ba4, baf⟩ := id ba
  obtain ⟨_, bb0, bb1, bb2, bb3, bb4, bbf⟩ := id bb
  by_cases hneg : (1048576 : Int) - (n : Int) < 0
  · rw [if_pos hneg]
    go_wp2_with fail
    go_ret
    exact ⟨rfl, hB⟩
  rw [if_neg hneg]
  have HN : Hid (L.length ≤ 1048576) := by show L.length ≤ 1048576; rw [HL.out]; omega
  go_wp2_with fail
  refine (szState_any _ _ _ _ _ _ _ _ _ (by omega) (by omega) HMx'.out).mono ?_
  rintro e w2 ⟨rfl, hb⟩
  clear ba0 ba1 ba2 ba3 ba4 bb0 bb1 bb2 bb3 bb4 baf bbf
  replace hB := hB.trans (hb.mono hB.size)
  replace ba := ba.later hb
  replace bb := bb.later hb
  clear hb
  obtain ⟨_, ba0, ba1, ba2, ba3, ba4, baf⟩ := id ba
  obtain ⟨_, bb0, bb1, bb2, bb3, bb4, bbf⟩ := id bb
  by_cases hneg2 : (1048576 : Int) - (n : Int) - (m : Int) < 0
  · rw [if_pos hneg2]
    go_wp2_with fail
    go_ret
    exact ⟨rfl, hB⟩
  rw [if_neg hneg2]
  have HN' : Hid (M.length ≤ 1048576) := by show M.length ≤ 1048576; rw [HM.out]; omega
  clear ba0 ba1 ba2 ba3 ba4 bb0 bb1 bb2 bb3 bb4 baf bbf
  obtain ⟨ll, hll⟩ : ∃ z : Int, (1048576 : Int) - (n : Int) - (m : Int) = z := ⟨_, rfl⟩
  rw [hll] at hneg2 ⊢
  clear hll
  clear hneg
  obtain ⟨⟨ra, rL, rc, rl, ru⟩, hr⟩ : ∃ r, stBoth false a L (c, l, u) b M (d, l', u') = r := ⟨_, rfl⟩
  have HR : Hid (stBoth false a L (c, l, u) b M (d, l', u') = (ra, rL, rc, rl, ru)) := hr
  clear hr
  have H : Hid (SpsAt false w2 0 w.heap.size (.slice p n cap) L) := h.later hB
  have H' : Hid (SpsAt false w2 0 w.heap.size (.slice p' m cap') M) := h'.later hB
  generalize (1048576 : Int) - (n : Int) = nn at *
  go_wp2_with fail
  go_cut [6] (fun s6 y => BoxAt y w2.heap.size (ra, rL, rc, rl, ru) s6 ∧ Below w2.heap.size w2 y)
  case first =>
    refine wp_region_inv (by kernel_rfl) (by kernel_rfl) (GJ (fun q0 q1 q2 q3 q4 q5 => ⟨List.toArray ((.agg #[.bool a, .slice p n cap, .bool c, .int .i64 l, .int .i64 u]) :: (.agg #[.bool b, .slice p' m cap', .bool d, .int .i64 l', .int .i64 u']) :: (.pointer (some ⟨w.heap.size, 0, none⟩)) :: (.pointer (some ⟨w.heap.size + 1, 0, none⟩)) :: (.bool false) :: (.int .i64 ll) :: (q5) :: (undef) :: (undef) :: (undef) :: (undef) :: (undef) :: (undef) :: (undef) :: (.agg #[.bool a, .slice p n cap, .bool c, .int .i64 l, .int .i64 u]) :: (.int .i64 1048576) :: (.int .i64 nn) :: (.int .i64 nn) :: (.bool (decide (nn < 0))) :: (.agg #[.bool b, .slice p' m cap', .bool d, .int .i64 l', .int .i64 u']) :: (.int .i64 nn) :: (.int .i64 ll) :: (.int .i64 ll) :: (.bool (decide (ll < 0))) :: (q0) :: (q1) :: (q2) :: (q3) :: (q4) :: (undef) :: (undef) :: (undef) :: (undef) :: (undef) :: (undef) :: (undef) :: (undef) :: (undef) :: (undef) :: (undef) :: (undef) :: (undef) :: (undef) :: (undef) :: (undef) :: (undef) :: (undef) :: (undef) :: (undef) :: (undef) :: (undef) :: (undef) :: (undef) :: (undef) :: (undef) :: (undef) :: (undef) :: (undef) :: (undef) :: (undef) :: (undef) :: (undef) :: (undef) :: (undef) :: (undef) :: (undef) :: (undef) :: (undef) :: (undef) :: (undef) :: (undef) :: (undef) :: (undef) :: (undef) :: (undef) :: (undef) :: (undef) :: (undef) :: (undef) :: (undef) :: (undef) :: (undef) :: (undef) :: (undef) :: (undef) :: (undef) :: (undef) :: (undef) :: (undef) :: (undef) :: (undef) :: (undef) :: []), []⟩) w2.drew (.agg #[.bool a, .slice p n cap, .bool c, .int .i64 l, .int .i64 u]) (.agg #[.bool b, .slice p' m cap', .bool d, .int .i64 l', .int .i64 u']) a L (c, l, u) b M (d, l', u') (ra, rL, rc, rl, ru)) ?start ?step ?fin
    case start => exact GJ.start rfl
    case step =>
      intro listed act z hI i o ho hun hpre
      obtain ⟨b0, b1, b2, b3, b4, b5, b6, s0, s1, s2, s3, s4, s5, hI⟩ := hI
      obtain rfl := hI.listed_eq
      obtain rfl := hI.act_eq
      have hd : Below w2.heap.size w2 w2.drew := (Below.refl _ _).drew
      rcases i with _ | i
      · obtain rfl := Option.some.inj ho
        have e : b0 = false := hun
        subst e
        obtain rfl : b6 = false := by
          cases b6
          · rfl
          · have := (hI.all rfl).1; simp at this
        refine wpOp_of ho rfl fun K hK => ?_
        clear ho hpre hun
        obtain ⟨_, c0, c1, c2, c3, c4, _⟩ := (ba.later hd).later hI.below
        go_simp
        exact hK _ _ (hI.set0 rfl rfl)
      rcases i with _ | i
      · obtain rfl := Option.some.inj ho
        have e : b1 = false := hun
        subst e
        obtain rfl : b6 = false := by
          cases b6
          · rfl
          · have := (hI.all rfl).2.1; simp at this
        have q0 : b0 = true := hpre ⟨0, .data⟩ (by simp) rfl
        have e0 := hI.h0.at_ q0
        subst e0
        refine wpOp_of ho rfl fun K hK => ?_
        clear ho hpre hun
        go_simp
        refine (toState_any _ false 0 w.heap.size _ _ L _ _ _ ((H.out.later hd).later hI.below) HN.out).mono ?_
        rintro e z1 ⟨v1, rfl, hs1, hb1⟩
        exact hK _ _ ((hI.grow hb1).set1 rfl rfl (AggAt.of hs1 hI.below.size))
      rcases i with _ | i
      · obtain rfl := Option.some.inj ho
        have e : b2 = false := hun
        subst e
        obtain rfl : b6 = false := by
          cases b6
          · rfl
          · have := (hI.all rfl).2.2.1; simp at this
        refine wpOp_of ho rfl fun K hK => ?_
        clear ho hpre hun
        obtain ⟨_, c0, c1, c2, c3, c4, _⟩ := (bb.later hd).later hI.below
        go_simp
        exact hK _ _ (hI.set2 rfl rfl)
      rcases i with _ | i
      · obtain rfl := Option.some.inj ho
        have e : b3 = false := hun
        subst e
        obtain rfl : b6 = false := by
          cases b6
          · rfl
          · have := (hI.all rfl).2.2.2.1; simp at this
        have q2 : b2 = true := hpre ⟨2, .data⟩ (by simp) rfl
        have e2 := hI.h2.at_ q2
        subst e2
        refine wpOp_of ho rfl fun K hK => ?_
        clear ho hpre hun
        go_simp
        refine (toState_any _ false 0 w.heap.size _ _ M _ _ _ ((H'.out.later hd).later hI.below) HN'.out).mono ?_
        rintro e z1 ⟨v1, rfl, hs1, hb1⟩
        exact hK _ _ ((hI.grow hb1).set3 rfl rfl (AggAt.of hs1 hI.below.size))
      rcases i with _ | i
      · obtain rfl := Option.some.inj ho
        have e : b4 = false := hun
        subst e
        obtain rfl : b6 = false := by
          cases b6
          · rfl
          · have := (hI.all rfl).2.2.2.2.1; simp at this
        have q1 : b1 = true := hpre ⟨1, .data⟩ (by simp) rfl
        obtain ⟨p1, cap1, e1, S1⟩ := hI.h1 rfl q1
        subst e1
        have q3 : b3 = true := hpre ⟨3, .data⟩ (by simp) rfl
        obtain ⟨p3, cap3, e3, S3⟩ := hI.h3 rfl q3
        subst e3
        refine wpOp_of ho rfl fun K hK => ?_
        clear ho hpre hun
        unfold aggV
        go_simp
        refine (stJoin_spec _ true true _ _ _ _ _ _ L _ _ _ _ _ M _ _ _ S1 S3).mono ?_
        rintro e z1 ⟨v1, rfl, hs1, hb1⟩
        rw [HR.out] at hs1 ⊢
        exact hK _ _ (hI.set4 hb1 rfl rfl (AggAt.of hs1 (Nat.le_refl _)))
      rcases i with _ | i
      · obtain rfl := Option.some.inj ho
        have e : b5 = false := hun
        subst e
        obtain rfl : b6 = false := by
          cases b6
          · rfl
          · have := (hI.all rfl).2.2.2.2.2; simp at this
        refine wpOp_of ho rfl fun K hK => ?_
        clear ho hpre hun
        go_simp
        exact hK _ _ (hI.set5 _ rfl rfl)
      rcases i with _ | i
      · obtain rfl := Option.some.inj ho
        have e : b6 = false := hun
        subst e
        have q0 : b0 = true := hpre ⟨0, .phase⟩ (by simp) rfl
        have q1 : b1 = true := hpre ⟨1, .phase⟩ (by simp) rfl
        have q2 : b2 = true := hpre ⟨2, .phase⟩ (by simp) rfl
        have q3 : b3 = true := hpre ⟨3, .phase⟩ (by simp) rfl
        have q4 : b4 = true := hpre ⟨4, .data⟩ (by simp) rfl
        have q5 : b5 = true := hpre ⟨5, .data⟩ (by simp) rfl
        obtain ⟨B4, E4, hB4, hE4, ⟨p4, cap4, e4, S4⟩, hmE⟩ := hI.h4 rfl q4
        obtain ⟨m5, e5, hm5, hx5⟩ := hI.h5 rfl q5
        have hmE5 := hmE q5 m5 e5
        subst e4 e5
        refine wpOp_of ho rfl fun K hK => ?_
        clear ho hpre hun hmE
        obtain ⟨_, c0, c1, c2, c3, c4, cf⟩ := id hx5
        unfold aggV
        go_simp
        exact hK _ _ (hI.set6 ⟨q0, q1, q2, q3, q4, q5⟩ rfl hm5 hx5 hB4 hE4 S4 hmE5 rfl rfl)
      cases ho
    case fin =>
      intro listed act z hI hfin
      obtain ⟨b0, b1, b2, b3, b4, b5, b6, s0, s1, s2, s3, s4, s5, hI⟩ := hI
      obtain rfl := hI.listed_eq
      obtain rfl := hI.act_eq
      have hbx := hI.h6 (hfin 6 (by simp))
      have hbl := hI.below
      clear hfin hI
      go_wp2_with fail
      go_meet
      exact ⟨hbx, ((Below.refl _ _).drew).trans (hbl.mono (Nat.le_refl _))⟩
  case rest =>
  rename World => w6
  obtain ⟨⟨m6, p6, cap6, rfl, hm6, k6, s6⟩, hbc⟩ := hcut
  have hrl : rL.length ≤ 3 := by have := stB_len false a L (c, l, u) b M (d, l', u'); rw [HR.out] at this; exact this
  generalize hq : rL.length = q at *
  have HQ : Hid (rL.length = q) := hq
  have HRL : Hid (rL.length ≤ 1048576) := (by omega : rL.length ≤ 1048576)
  have hq3 : (q : Int) ≤ 3 := by omega
  clear hq hrl
  have hw22 : w.heap.size + 2 ≤ w2.heap.size := by have := bb.lt; omega
  have A : Hid (Ag w w6 (.slice p n cap) (.slice p' m cap') a c l u b d l' u' L M) := (Ag.mk hB ba bb H.out H'.out : Ag w w2 (.slice p n cap) (.slice p' m cap') a c l u b d l' u' L M).later hbc
  have P6 : Hid (Pr w6 w2.heap.size w6.heap.size m6 ra p6 q cap6 rc rl ru rL) := ⟨k6, s6⟩
  have hm6l : m6 < w6.heap.size := k6.lt
  have hwc2 : w2.heap.size ≤ w6.heap.size := hbc.size
  clear hB ba bb H H' hbc k6 s6 h h'
  obtain ⟨_, a0, a1, a2, a3, a4, _⟩ := A.out.ba
  go_wp2_with fail
  refine (toState_any _ false 0 w.heap.size _ _ L _ _ _ A.out.ra HN.out).mono ?_
  rintro e w7 ⟨v7, rfl, h7, hb⟩
  clear a0 a1 a2 a3 a4
  replace A : Hid (Ag w w7 (.slice p n cap) (.slice p' m cap') a c l u b d l' u' L M) := A.out.later hb
  replace P6 : Hid (Pr w7 w2.heap.size w6.heap.size m6 ra p6 q cap6 rc rl ru rL) := P6.out.later hb
  have hz7 := hb.size
  clear hb
  obtain ⟨p7, cap7, hv7⟩ := h7.shape
  rw [HL.out] at hv7
  subst hv7
  obtain ⟨_, b0, b1, b2, b3, b4, _⟩ := A.out.bb
  go_wp2_with fail
  clear b0 b1 b2 b3 b4
  have hba := Below.alloc (Below.refl w7.heap.size w7) (Nat.le_refl _) (.cells #[.bool a, .slice p7 n cap7, .bool c, .int .i64 l, .int .i64 u] 31)
  have P7 := Pr.made (a := a) (c := c) (l := l) (u := u) 31 h7
  obtain ⟨y7, hy7⟩ : ∃ z, w7.alloc (.cells #[.bool a, .slice p7 n cap7, .bool c, .int .i64 l, .int .i64 u] 31) = z := ⟨_, rfl⟩
  rw [hy7] at hba P7 ⊢
  have hy7s : y7.heap.size = w7.heap.size + 1 := by rw [← hy7]; simp
  clear hy7
  replace A : Hid (Ag w y7 (.slice p n cap) (.slice p' m cap') a c l u b d l' u' L M) := A.out.later hba
  replace P6 : Hid (Pr y7 w2.heap.size w6.heap.size m6 ra p6 q cap6 rc rl ru rL) := P6.out.later hba
  replace P7 : Hid (Pr y7 w6.heap.size w7.heap.size w7.heap.size a p7 n cap7 c l u L) := P7
  clear hba h7
  refine (toState_any _ false 0 w.heap.size _ _ M _ _ _ A.out.rb HN'.out).mono ?_
  rintro e w8 ⟨v8, rfl, h8, hb⟩
  replace A : Hid (Ag w w8 (.slice p n cap) (.slice p' m cap') a c l u b d l' u' L M) := A.out.later hb
  replace P6 : Hid (Pr w8 w2.heap.size w6.heap.size m6 ra p6 q cap6 rc rl ru rL) := P6.out.later hb
  replace P7 : Hid (Pr w8 w6.heap.size w7.heap.size w7.heap.size a p7 n cap7 c l u L) := P7.out.later hb
  have hz8 := hb.size
  clear hb
  obtain ⟨p8, cap8, hv8⟩ := h8.shape
  rw [HM.out] at hv8
  subst hv8
  obtain ⟨_, x0, x1, x2, x3, x4, _⟩ := P7.out.box
  go_wp2_with fail
  clear x0 x1 x2 x3 x4
  have hba := Below.alloc (Below.refl w8.heap.size w8) (Nat.le_refl _) (.cells #[.bool b, .slice p8 m cap8, .bool d, .int .i64 l', .int .i64 u'] 31)
  have P8 := Pr.made (a := b) (c := d) (l := l') (u := u') 31 h8
  obtain ⟨y8, hy8⟩ : ∃ z, w8.alloc (.cells #[.bool b, .slice p8 m cap8, .bool d, .int .i64 l', .int .i64 u'] 31) = z := ⟨_, rfl⟩
  rw [hy8] at hba P8 ⊢
  have hy8s : y8.heap.size = w8.heap.size + 1 := by rw [← hy8]; simp
  clear hy8
  replace A : Hid (Ag w y8 (.slice p n cap) (.slice p' m cap') a c l u b d l' u' L M) := A.out.later hba
  replace P6 : Hid (Pr y8 w2.heap.size w6.heap.size m6 ra p6 q cap6 rc rl ru rL) := P6.out.later hba
  replace P7 : Hid (Pr y8 w6.heap.size w7.heap.size w7.heap.size a p7 n cap7 c l u L) := P7.out.later hba
  replace P8 : Hid (Pr y8 y7.heap.size w8.heap.size w8.heap.size b p8 m cap8 d l' u' M) := P8
  clear hba h8
  refine (stJoin_impl _ true true _ _ _ _ _ _ L _ _ _ _ _ M _ _ _ P7.out.row P8.out.row).mono ?_
  rintro e w9 ⟨v9, rfl, h9, hb⟩
  rw [HR.out] at h9 ⊢
  replace A : Hid (Ag w w9 (.slice p n cap) (.slice p' m cap') a c l u b d l' u' L M) := A.out.later hb
  replace P6 : Hid (Pr w9 w2.heap.size w6.heap.size m6 ra p6 q cap6 rc rl ru rL) := P6.out.later hb
  replace P7 : Hid (Pr w9 w6.heap.size w7.heap.size w7.heap.size a p7 n cap7 c l u L) := P7.out.later hb
  replace P8 : Hid (Pr w9 y7.heap.size w8.heap.size w8.heap.size b p8 m cap8 d l' u' M) := P8.out.later hb
  have hz9 := hb.size
  clear hb
  obtain ⟨p9, cap9, hv9⟩ := h9.shape
  simp only at hv9 h9
  rw [HQ.out] at hv9
  subst hv9
  obtain ⟨_, r0, r1, r2, r3, r4, _⟩ := P6.out.box
  go_wp2_with fail
  clear r0 r1 r2 r3 r4
  have hba := Below.alloc (Below.refl w9.heap.size w9) (Nat.le_refl _) (.cells #[.bool ra, .slice p9 q cap9, .bool rc, .int .i64 rl, .int .i64 ru] 31)
  have P9 := Pr.made (a := ra) (c := rc) (l := rl) (u := ru) 31 h9
  obtain ⟨y9, hy9⟩ : ∃ z, w9.alloc (.cells #[.bool ra, .slice p9 q cap9, .bool rc, .int .i64 rl, .int .i64 ru] 31) = z := ⟨_, rfl⟩
  rw [hy9] at hba P9 ⊢
  have hy9s : y9.heap.size = w9.heap.size + 1 := by rw [← hy9]; simp
  clear hy9
  replace A : Hid (Ag w y9 (.slice p n cap) (.slice p' m cap') a c l u b d l' u' L M) := A.out.later hba
  replace P6 : Hid (Pr y9 w2.heap.size w6.heap.size m6 ra p6 q cap6 rc rl ru rL) := P6.out.later hba
  replace P7 : Hid (Pr y9 w6.heap.size w7.heap.size w7.heap.size a p7 n cap7 c l u L) := P7.out.later hba
  replace P8 : Hid (Pr y9 y7.heap.size w8.heap.size w8.heap.size b p8 m cap8 d l' u' M) := P8.out.later hba
  replace P9 : Hid (Pr y9 y8.heap.size w9.heap.size w9.heap.size ra p9 q cap9 rc rl ru rL) := P9
  clear hba h9
  refine (eqState_same _ true true _ _ _ _ _ _ _ rL _ _ _ P9.out.row P6.out.row).mono ?_
  rintro e wA ⟨rfl, hb⟩
  replace A : Hid (Ag w wA (.slice p n cap) (.slice p' m cap') a c l u b d l' u' L M) := A.out.later hb
  replace P6 : Hid (Pr wA w2.heap.size w6.heap.size m6 ra p6 q cap6 rc rl ru rL) := P6.out.later hb
  replace P7 : Hid (Pr wA w6.heap.size w7.heap.size w7.heap.size a p7 n cap7 c l u L) := P7.out.later hb
  replace P8 : Hid (Pr wA y7.heap.size w8.heap.size w8.heap.size b p8 m cap8 d l' u' M) := P8.out.later hb
  replace P9 : Hid (Pr wA y8.heap.size w9.heap.size w9.heap.size ra p9 q cap9 rc rl ru rL) := P9.out.later hb
  clear hb
  have hS : Below w.heap.size w wA ∧ w7.heap.size < wA.heap.size ∧ w.heap.size < wA.heap.size ∧ wA.cell? ⟨w7.heap.size, 0, none⟩ = some (.bool a) ∧ wA.cell? ⟨w7.heap.size, 1, none⟩ = some (.slice p7 n cap7) ∧ wA.cell? ⟨w7.heap.size, 2, none⟩ = some (.bool c) ∧ wA.cell? ⟨w7.heap.size, 3, none⟩ = some (.int .i64 l) ∧ wA.cell? ⟨w7.heap.size, 4, none⟩ = some (.int .i64 u) ∧ wA.cell? ⟨w.heap.size, 0, none⟩ = some (.bool a) ∧ wA.cell? ⟨w.heap.size, 1, none⟩ = some (.slice p n cap) ∧ wA.cell? ⟨w.heap.size, 2, none⟩ = some (.bool c) ∧ wA.cell? ⟨w.heap.size, 3, none⟩ = some (.int .i64 l) ∧ wA.cell? ⟨w.heap.size, 4, none⟩ = some (.int .i64 u) := ⟨A.out.below, P7.out.box.lt, A.out.ba.lt, P7.out.box.c0, P7.out.box.c1, P7.out.box.c2, P7.out.box.c3, P7.out.box.c4, A.out.ba.c0, A.out.ba.c1, A.out.ba.c2, A.out.ba.c3, A.out.ba.c4⟩
  go_wp2_with fail
  go_region_held3 (fun x => Below w.heap.size w x ∧ w7.heap.size < x.heap.size ∧ w.heap.size < x.heap.size ∧ x.cell? ⟨w7.heap.size, 0, none⟩ = some (.bool a) ∧ x.cell? ⟨w7.heap.size, 1, none⟩ = some (.slice p7 n cap7) ∧ x.cell? ⟨w7.heap.size, 2, none⟩ = some (.bool c) ∧ x.cell? ⟨w7.heap.size, 3, none⟩ = some (.int .i64 l) ∧ x.cell? ⟨w7.heap.size, 4, none⟩ = some (.int .i64 u) ∧ x.cell? ⟨w.heap.size, 0, none⟩ = some (.bool a) ∧ x.cell? ⟨w.heap.size, 1, none⟩ = some (.slice p n cap) ∧ x.cell? ⟨w.heap.size, 2, none⟩ = some (.bool c) ∧ x.cell? ⟨w.heap.size, 3, none⟩ = some (.int .i64 l) ∧ x.cell? ⟨w.heap.size, 4, none⟩ = some (.int .i64 u)) (first | (with_reducible assumption) | exact keepBB (by with_reducible assumption) (by with_reducible assumption) | exact keepBB hS (Below.drew (Below.refl _ _)) | fail) (first | (go_at_call 12; with_reducible refine (toState_any _ false 0 w.heap.size _ _ L _ _ _ (A.out.ra.later (Below.drew (Below.refl _ _))) HN.out).mono ?_; rintro e wB ⟨v0, rfl, h0, hb0⟩; obtain ⟨p0, cap0, rfl⟩ := h0.shape) | (go_at_call 14; refine (eqState_same _ true true _ _ _ _ _ _ _ L _ _ _ ((P7.out.row.later (Below.drew (Below.refl _ _))).later hb0) h0).mono ?_; rintro e wC ⟨rfl, hb1⟩))
  clear hS
  replace A : Hid (Ag w wC (.slice p n cap) (.slice p' m cap') a c l u b d l' u' L M) := ((A.out.later (Below.drew (Below.refl _ _))).later hb0).later hb1
  replace P6 : Hid (Pr wC w2.heap.size w6.heap.size m6 ra p6 q cap6 rc rl ru rL) := ((P6.out.later (Below.drew (Below.refl _ _))).later hb0).later hb1
  replace P7 : Hid (Pr wC w6.heap.size w7.heap.size w7.heap.size a p7 n cap7 c l u L) := ((P7.out.later (Below.drew (Below.refl _ _))).later hb0).later hb1
  replace P8 : Hid (Pr wC y7.heap.size w8.heap.size w8.heap.size b p8 m cap8 d l' u' M) := ((P8.out.later (Below.drew (Below.refl _ _))).later hb0).later hb1
  replace P9 : Hid (Pr wC y8.heap.size w9.heap.size w9.heap.size ra p9 q cap9 rc rl ru rL) := ((P9.out.later (Below.drew (Below.refl _ _))).later hb0).later hb1
  clear hb0 hb1 h0
  have hS : Below w.heap.size w wC ∧ w8.heap.size < wC.heap.size ∧ w.heap.size + 1 < wC.heap.size ∧ wC.cell? ⟨w8.heap.size, 0, none⟩ = some (.bool b) ∧ wC.cell? ⟨w8.heap.size, 1, none⟩ = some (.slice p8 m cap8) ∧ wC.cell? ⟨w8.heap.size, 2, none⟩ = some (.bool d) ∧ wC.cell? ⟨w8.heap.size, 3, none⟩ = some (.int .i64 l') ∧ wC.cell? ⟨w8.heap.size, 4, none⟩ = some (.int .i64 u') ∧ wC.cell? ⟨w.heap.size + 1, 0, none⟩ = some (.bool b) ∧ wC.cell? ⟨w.heap.size + 1, 1, none⟩ = some (.slice p' m cap') ∧ wC.cell? ⟨w.heap.size + 1, 2, none⟩ = some (.bool d) ∧ wC.cell? ⟨w.heap.size + 1, 3, none⟩ = some (.int .i64 l') ∧ wC.cell? ⟨w.heap.size + 1, 4, none⟩ = some (.int .i64 u') := ⟨A.out.below, P8.out.box.lt, A.out.bb.lt, P8.out.box.c0, P8.out.box.c1, P8.out.box.c2, P8.out.box.c3, P8.out.box.c4, A.out.bb.c0, A.out.bb.c1, A.out.bb.c2, A.out.bb.c3, A.out.bb.c4⟩
  go_wp2_with fail
  go_region_held3 (fun x => Below w.heap.size w x ∧ w8.heap.size < x.heap.size ∧ w.heap.size + 1 < x.heap.size ∧ x.cell? ⟨w8.heap.size, 0, none⟩ = some (.bool b) ∧ x.cell? ⟨w8.heap.size, 1, none⟩ = some (.slice p8 m cap8) ∧ x.cell? ⟨w8.heap.size, 2, none⟩ = some (.bool d) ∧ x.cell? ⟨w8.heap.size, 3, none⟩ = some (.int .i64 l') ∧ x.cell? ⟨w8.heap.size, 4, none⟩ = some (.int .i64 u') ∧ x.cell? ⟨w.heap.size + 1, 0, none⟩ = some (.bool b) ∧ x.cell? ⟨w.heap.size + 1, 1, none⟩ = some (.slice p' m cap') ∧ x.cell? ⟨w.heap.size + 1, 2, none⟩ = some (.bool d) ∧ x.cell? ⟨w.heap.size + 1, 3, none⟩ = some (.int .i64 l') ∧ x.cell? ⟨w.heap.size + 1, 4, none⟩ = some (.int .i64 u')) (first | (with_reducible assumption) | exact keepBB (by with_reducible assumption) (by with_reducible assumption) | exact keepBB hS (Below.drew (Below.refl _ _)) | fail) (first | (go_at_call 12; with_reducible refine (toState_any _ false 0 w.heap.size _ _ M _ _ _ (A.out.rb.later (Below.drew (Below.refl _ _))) HN'.out).mono ?_; rintro e wD ⟨v0, rfl, h0, hb0⟩; obtain ⟨p0, cap0, rfl⟩ := h0.shape) | (go_at_call 14; refine (eqState_same _ true true _ _ _ _ _ _ _ M _ _ _ ((P8.out.row.later (Below.drew (Below.refl _ _))).later hb0) h0).mono ?_; rintro e wE ⟨rfl, hb1⟩))
  clear hS
  replace A : Hid (Ag w wE (.slice p n cap) (.slice p' m cap') a c l u b d l' u' L M) := ((A.out.later (Below.drew (Below.refl _ _))).later hb0).later hb1
  replace P6 : Hid (Pr wE w2.heap.size w6.heap.size m6 ra p6 q cap6 rc rl ru rL) := ((P6.out.later (Below.drew (Below.refl _ _))).later hb0).later hb1
  replace P7 : Hid (Pr wE w6.heap.size w7.heap.size w7.heap.size a p7 n cap7 c l u L) := ((P7.out.later (Below.drew (Below.refl _ _))).later hb0).later hb1
  replace P8 : Hid (Pr wE y7.heap.size w8.heap.size w8.heap.size b p8 m cap8 d l' u' M) := ((P8.out.later (Below.drew (Below.refl _ _))).later hb0).later hb1
  replace P9 : Hid (Pr wE y8.heap.size w9.heap.size w9.heap.size ra p9 q cap9 rc rl ru rL) := ((P9.out.later (Below.drew (Below.refl _ _))).later hb0).later hb1
  clear hb0 hb1 h0
  have hnm : (0 : Int) ≤ n ∧ (n : Int) ≤ 1048576 ∧ (0 : Int) ≤ m ∧ (m : Int) ≤ 1048576 := by have h1 := HN.out; have h2 := HN'.out; rw [HL.out] at h1; rw [HM.out] at h2; omega
  have hn0 := hnm.1
  have hn1 := hnm.2.1
  have hm0 := hnm.2.2.1
  have hm1 := hnm.2.2.2
  clear hnm
  obtain ⟨_, x0, x1, x2, x3, x4, _⟩ := P7.out.box
  go_wp2_with fail
  refine (markState_any _ _ _ a _ (c, l, u) L 1 P7.out.row HN.out (by omega) (by omega)).mono ?_
  rintro e wF ⟨rfl, hs, hw⟩
  clear x0 x1 x2 x3 x4
  rw [HL.out]
  rw [HL.out] at hs
  have hal : ∀ {y : World} (o : Obj), Below y.heap.size y (y.alloc o) := fun o => (Below.refl _ _).alloc (Nat.le_refl _) o
  replace A : Hid (Ag w wF (.slice p n cap) (.slice p' m cap') a c l u b d l' u' L M) := (A.out.later (hal _)).within hw (by omega)
  replace P6 : Hid (Pr wF w2.heap.size w6.heap.size m6 ra p6 q cap6 rc rl ru rL) := (P6.out.later (hal _)).within hw (by omega) (by omega)
  replace P8 : Hid (Pr wF y7.heap.size w8.heap.size w8.heap.size b p8 m cap8 d l' u' M) := (P8.out.later (hal _)).within hw (by omega) (by omega)
  replace P9 : Hid (Pr wF y8.heap.size w9.heap.size w9.heap.size ra p9 q cap9 rc rl ru rL) := (P9.out.later (hal _)).within hw (by omega) (by omega)
  replace P7 : Hid (Pr wF w6.heap.size w7.heap.size w7.heap.size a p7 n cap7 c l u (mks 1 n)) := (P7.out.later (hal _)).mark hw (by omega) hs
  clear hs hw hal
  obtain ⟨_, x0, x1, x2, x3, x4, _⟩ := P8.out.box
  go_wp2_with fail
  refine (markState_any _ _ _ b _ (d, l', u') M (1 + 3 * (n : Int)) P8.out.row HN'.out (by omega) (by omega)).mono ?_
  rintro e wG ⟨rfl, hs, hw⟩
  clear x0 x1 x2 x3 x4
  rw [HM.out]
  rw [HM.out] at hs
  have hal : ∀ {y : World} (o : Obj), Below y.heap.size y (y.alloc o) := fun o => (Below.refl _ _).alloc (Nat.le_refl _) o
  replace A : Hid (Ag w wG (.slice p n cap) (.slice p' m cap') a c l u b d l' u' L M) := (A.out.later (hal _)).within hw (by omega)
  replace P6 : Hid (Pr wG w2.heap.size w6.heap.size m6 ra p6 q cap6 rc rl ru rL) := (P6.out.later (hal _)).within hw (by omega) (by omega)
  replace P7 : Hid (Pr wG w6.heap.size w7.heap.size w7.heap.size a p7 n cap7 c l u (mks 1 n)) := (P7.out.later (hal _)).within hw (by omega) (by omega)
  replace P9 : Hid (Pr wG y8.heap.size w9.heap.size w9.heap.size ra p9 q cap9 rc rl ru rL) := (P9.out.later (hal _)).within hw (by omega) (by omega)
  replace P8 : Hid (Pr wG y7.heap.size w8.heap.size w8.heap.size b p8 m cap8 d l' u' (mks (1 + 3 * (n : Int)) m)) := (P8.out.later (hal _)).mark hw (by omega) hs
  clear hs hw hal
  have hk0 : ¬ 1 + 3 * (n : Int) + 3 * (m : Int) < 0 := by omega
  obtain ⟨_, x0, x1, x2, x3, x4, _⟩ := P9.out.box
  obtain ⟨_, r0, r1, r2, r3, r4, _⟩ := P6.out.box
  go_wp2_with fail
  refine (eqState_same _ true true _ _ _ _ _ _ _ rL _ _ _ P9.out.row P6.out.row).mono ?_
  rintro e wH ⟨rfl, hb⟩
  clear x0 x1 x2 x3 x4 r0 r1 r2 r3 r4
  replace A : Hid (Ag w wH (.slice p n cap) (.slice p' m cap') a c l u b d l' u' L M) := A.out.later hb
  replace P6 : Hid (Pr wH w2.heap.size w6.heap.size m6 ra p6 q cap6 rc rl ru rL) := P6.out.later hb
  replace P7 : Hid (Pr wH w6.heap.size w7.heap.size w7.heap.size a p7 n cap7 c l u (mks 1 n)) := P7.out.later hb
  replace P8 : Hid (Pr wH y7.heap.size w8.heap.size w8.heap.size b p8 m cap8 d l' u' (mks (1 + 3 * (n : Int)) m)) := P8.out.later hb
  replace P9 : Hid (Pr wH y8.heap.size w9.heap.size w9.heap.size ra p9 q cap9 rc rl ru rL) := P9.out.later hb
  clear hb
  obtain ⟨_, x0, x1, x2, x3, x4, _⟩ := P9.out.box
  go_wp2_with fail
  refine (markState_any _ _ _ ra _ (rc, rl, ru) rL 1 P9.out.row HRL.out (by omega) (by omega)).mono ?_
  rintro e wI ⟨rfl, hs, hw⟩
  clear x0 x1 x2 x3 x4
  rw [HQ.out]
  rw [HQ.out] at hs
  have hal : ∀ {y : World} (o : Obj), Below y.heap.size y (y.alloc o) := fun o => (Below.refl _ _).alloc (Nat.le_refl _) o
  replace A : Hid (Ag w wI (.slice p n cap) (.slice p' m cap') a c l u b d l' u' L M) := (A.out.later (hal _)).within hw (by omega)
  replace P6 : Hid (Pr wI w2.heap.size w6.heap.size m6 ra p6 q cap6 rc rl ru rL) := (P6.out.later (hal _)).within hw (by omega) (by omega)
  replace P7 : Hid (Pr wI w6.heap.size w7.heap.size w7.heap.size a p7 n cap7 c l u (mks 1 n)) := (P7.out.later (hal _)).within hw (by omega) (by omega)
  replace P8 : Hid (Pr wI y7.heap.size w8.heap.size w8.heap.size b p8 m cap8 d l' u' (mks (1 + 3 * (n : Int)) m)) := (P8.out.later (hal _)).within hw (by omega) (by omega)
  replace P9 : Hid (Pr wI y8.heap.size w9.heap.size w9.heap.size ra p9 q cap9 rc rl ru (mks 1 q)) := (P9.out.later (hal _)).mark hw (by omega) hs
  clear hs hw hal
  have hkq : ¬ 1 + 3 * (q : Int) < 0 := by omega
  obtain ⟨_, x0, x1, x2, x3, x4, _⟩ := P9.out.box
  go_upto_region 26 with fail
  clear x0 x1 x2 x3 x4
  go_cut [12] (fun s12 y => s12 = .int .i64 (1 + 3 * (q : Int)) ∧ Hid (Ag w y (.slice p n cap) (.slice p' m cap') a c l u b d l' u' L M) ∧ Hid (Pr y w2.heap.size w6.heap.size m6 ra p6 q cap6 rc rl ru rL) ∧ Hid (Pr y w6.heap.size w7.heap.size w7.heap.size a p7 n cap7 c l u (mks 1 n)) ∧ Hid (Pr y y7.heap.size w8.heap.size w8.heap.size b p8 m cap8 d l' u' (mks (1 + 3 * (n : Int)) m)) ∧ Hid (Pr y y8.heap.size w9.heap.size w9.heap.size ra p9 q cap9 rc rl ru (mks 1 q)))
  case first =>
    obtain ⟨_, x0, x1, x2, x3, x4, _⟩ := P9.out.box
    go_wp2_with fail
    refine (heldState_same _ true _ _ ra _ (rc, rl, ru) q 1 P9.out.row (by have := HRL.out; rw [HQ.out] at this; exact this) (by omega) (by omega)).mono ?_
    rintro e wJ ⟨rfl, hy⟩
    clear x0 x1 x2 x3 x4
    replace A : Hid (Ag w wJ (.slice p n cap) (.slice p' m cap') a c l u b d l' u' L M) := by rw [hy]; exact A.out.later ((Below.refl _ _).alloc (Nat.le_refl _) _)
    replace P6 : Hid (Pr wJ w2.heap.size w6.heap.size m6 ra p6 q cap6 rc rl ru rL) := by rw [hy]; exact P6.out.later ((Below.refl _ _).alloc (Nat.le_refl _) _)
    replace P7 : Hid (Pr wJ w6.heap.size w7.heap.size w7.heap.size a p7 n cap7 c l u (mks 1 n)) := by rw [hy]; exact P7.out.later ((Below.refl _ _).alloc (Nat.le_refl _) _)
    replace P8 : Hid (Pr wJ y7.heap.size w8.heap.size w8.heap.size b p8 m cap8 d l' u' (mks (1 + 3 * (n : Int)) m)) := by rw [hy]; exact P8.out.later ((Below.refl _ _).alloc (Nat.le_refl _) _)
    replace P9 : Hid (Pr wJ y8.heap.size w9.heap.size w9.heap.size ra p9 q cap9 rc rl ru (mks 1 q)) := by rw [hy]; exact P9.out.later ((Below.refl _ _).alloc (Nat.le_refl _) _)
    clear hy
    go_wp2_with fail
    go_meet
    exact ⟨rfl, A, P6, P7, P8, P9⟩
  case rest =>
  rename World => wJ
  clear A P6 P7 P8 P9
  obtain ⟨rfl, A, P6, P7, P8, P9⟩ := hcut
  have H : Hid (SpsAt false wJ 0 w.heap.size (.slice p n cap) L) := A.out.ra
  have H' : Hid (SpsAt false wJ 0 w.heap.size (.slice p' m cap') M) := A.out.rb
  have ba := A.out.ba
  have bb := A.out.bb
  go_wp2_with fail
  go_cut [13] (fun s6 y => BoxAt y wJ.heap.size (ra, rL, rc, rl, ru) s6 ∧ Below wJ.heap.size wJ y)
  case first =>
    refine wp_region_inv (by kernel_rfl) (by kernel_rfl) (GJ (fun q0 q1 q2 q3 q4 q5 => ⟨List.toArray ((.agg #[.bool a, .slice p n cap, .bool c, .int .i64 l, .int .i64 u]) :: (.agg #[.bool b, .slice p' m cap', .bool d, .int .i64 l', .int .i64 u']) :: (.pointer (some ⟨w.heap.size, 0, none⟩)) :: (.pointer (some ⟨w.heap.size + 1, 0, none⟩)) :: (.bool false) :: (.int .i64 ll) :: (.pointer (some ⟨m6, 0, none⟩)) :: (.pointer (some ⟨w7.heap.size, 0, none⟩)) :: (.pointer (some ⟨w8.heap.size, 0, none⟩)) :: (.pointer (some ⟨w9.heap.size, 0, none⟩)) :: (.int .i64 (1 + 3 * (n : Int) + 3 * (m : Int))) :: (.int .i64 (1 + 3 * (q : Int))) :: (.int .i64 (1 + 3 * (q : Int))) :: (q5) :: (u14) :: (u15) :: (u16) :: (u17) :: (u18) :: (u19) :: (u20) :: (u21) :: (u22) :: (u23) :: (u24) :: (u25) :: (u26) :: (u27) :: (u28) :: (u29) :: (u30) :: (u31) :: (u32) :: (u33) :: (u34) :: (u35) :: (u36) :: (u37) :: (u38) :: (u39) :: (u40) :: (u41) :: (u42) :: (u43) :: (u44) :: (u45) :: (u46) :: (u47) :: (u48) :: (u49) :: (u50) :: (u51) :: (u52) :: (u53) :: (u54) :: (u55) :: (u56) :: (u57) :: (u58) :: (u59) :: (u60) :: (u61) :: (u62) :: (u63) :: (u64) :: (u65) :: (u66) :: (u67) :: (u68) :: (u69) :: (.int .i64 (1 + 3 * (q : Int))) :: (.bool (decide (1 + 3 * (q : Int) < 0))) :: (.int .i64 (1 + 3 * (q : Int))) :: (.int .i64 (1 + 3 * (q : Int))) :: (.bool false) :: (q0) :: (q1) :: (q2) :: (q3) :: (q4) :: (u80) :: (u81) :: (u82) :: (u83) :: (u84) :: (u85) :: (u86) :: (u87) :: (u88) :: (u89) :: (u90) :: (u91) :: []), []⟩) wJ.drew (.agg #[.bool a, .slice p n cap, .bool c, .int .i64 l, .int .i64 u]) (.agg #[.bool b, .slice p' m cap', .bool d, .int .i64 l', .int .i64 u']) a L (c, l, u) b M (d, l', u') (ra, rL, rc, rl, ru)) ?start ?step ?fin
    case start => exact GJ.start rfl
    case step =>
      intro listed act z hI i o ho hun hpre
      obtain ⟨b0, b1, b2, b3, b4, b5, b6, s0, s1, s2, s3, s4, s5, hI⟩ := hI
      obtain rfl := hI.listed_eq
      obtain rfl := hI.act_eq
      have hd : Below wJ.heap.size wJ wJ.drew := (Below.refl _ _).drew
      rcases i with _ | i
      · obtain rfl := Option.some.inj ho
        have e : b0 = false := hun
        subst e
        obtain rfl : b6 = false := by
          cases b6
          · rfl
          · have := (hI.all rfl).1; simp at this
        refine wpOp_of ho rfl fun K hK => ?_
        clear ho hpre hun
        obtain ⟨_, c0, c1, c2, c3, c4, _⟩ := (ba.later hd).later hI.below
        go_simp
        exact hK _ _ (hI.set0 rfl rfl)
      rcases i with _ | i
      · obtain rfl := Option.some.inj ho
        have e : b1 = false := hun
        subst e
        obtain rfl : b6 = false := by
          cases b6
          · rfl
          · have := (hI.all rfl).2.1; simp at this
        have q0 : b0 = true := hpre ⟨0, .data⟩ (by simp) rfl
        have e0 := hI.h0.at_ q0
        subst e0
        refine wpOp_of ho rfl fun K hK => ?_
        clear ho hpre hun
        go_simp
        refine (toState_any _ false 0 w.heap.size _ _ L _ _ _ ((H.out.later hd).later hI.below) HN.out).mono ?_
        rintro e z1 ⟨v1, rfl, hs1, hb1⟩
        exact hK _ _ ((hI.grow hb1).set1 rfl rfl (AggAt.of hs1 hI.below.size))
      rcases i with _ | i
      · obtain rfl := Option.some.inj ho
        have e : b2 = false := hun
        subst e
        obtain rfl : b6 = false := by
          cases b6
          · rfl
          · have := (hI.all rfl).2.2.1; simp at this
        refine wpOp_of ho rfl fun K hK => ?_
        clear ho hpre hun
        obtain ⟨_, c0, c1, c2, c3, c4, _⟩ := (bb.later hd).later hI.below
        go_simp
        exact hK _ _ (hI.set2 rfl rfl)
      rcases i with _ | i
      · obtain rfl := Option.some.inj ho
        have e : b3 = false := hun
        subst e
        obtain rfl : b6 = false := by
          cases b6
          · rfl
          · have := (hI.all rfl).2.2.2.1; simp at this
        have q2 : b2 = true := hpre ⟨2, .data⟩ (by simp) rfl
        have e2 := hI.h2.at_ q2
        subst e2
        refine wpOp_of ho rfl fun K hK => ?_
        clear ho hpre hun
        go_simp
        refine (toState_any _ false 0 w.heap.size _ _ M _ _ _ ((H'.out.later hd).later hI.below) HN'.out).mono ?_
        rintro e z1 ⟨v1, rfl, hs1, hb1⟩
        exact hK _ _ ((hI.grow hb1).set3 rfl rfl (AggAt.of hs1 hI.below.size))
      rcases i with _ | i
      · obtain rfl := Option.some.inj ho
        have e : b4 = false := hun
        subst e
        obtain rfl : b6 = false := by
          cases b6
          · rfl
          · have := (hI.all rfl).2.2.2.2.1; simp at this
        have q1 : b1 = true := hpre ⟨1, .data⟩ (by simp) rfl
        obtain ⟨p1, cap1, e1, S1⟩ := hI.h1 rfl q1
        subst e1
        have q3 : b3 = true := hpre ⟨3, .data⟩ (by simp) rfl
        obtain ⟨p3, cap3, e3, S3⟩ := hI.h3 rfl q3
        subst e3
        refine wpOp_of ho rfl fun K hK => ?_
        clear ho hpre hun
        unfold aggV
        go_simp
        refine (stJoin_impl _ true true _ _ _ _ _ _ L _ _ _ _ _ M _ _ _ S1 S3).mono ?_
        rintro e z1 ⟨v1, rfl, hs1, hb1⟩
        rw [HR.out] at hs1 ⊢
        exact hK _ _ (hI.set4 hb1 rfl rfl (AggAt.of hs1 (Nat.le_refl _)))
      rcases i with _ | i
      · obtain rfl := Option.some.inj ho
        have e : b5 = false := hun
        subst e
        obtain rfl : b6 = false := by
          cases b6
          · rfl
          · have := (hI.all rfl).2.2.2.2.2; simp at this
        refine wpOp_of ho rfl fun K hK => ?_
        clear ho hpre hun
        go_simp
        exact hK _ _ (hI.set5 _ rfl rfl)
      rcases i with _ | i
      · obtain rfl := Option.some.inj ho
        have e : b6 = false := hun
        subst e
        have q0 : b0 = true := hpre ⟨0, .phase⟩ (by simp) rfl
        have q1 : b1 = true := hpre ⟨1, .phase⟩ (by simp) rfl
        have q2 : b2 = true := hpre ⟨2, .phase⟩ (by simp) rfl
        have q3 : b3 = true := hpre ⟨3, .phase⟩ (by simp) rfl
        have q4 : b4 = true := hpre ⟨4, .data⟩ (by simp) rfl
        have q5 : b5 = true := hpre ⟨5, .data⟩ (by simp) rfl
        obtain ⟨B4, E4, hB4, hE4, ⟨p4, cap4, e4, S4⟩, hmE⟩ := hI.h4 rfl q4
        obtain ⟨m5, e5, hm5, hx5⟩ := hI.h5 rfl q5
        have hmE5 := hmE q5 m5 e5
        subst e4 e5
        refine wpOp_of ho rfl fun K hK => ?_
        clear ho hpre hun hmE
        obtain ⟨_, c0, c1, c2, c3, c4, cf⟩ := id hx5
        unfold aggV
        go_simp
        exact hK _ _ (hI.set6 ⟨q0, q1, q2, q3, q4, q5⟩ rfl hm5 hx5 hB4 hE4 S4 hmE5 rfl rfl)
      cases ho
    case fin =>
      intro listed act z hI hfin
      obtain ⟨b0, b1, b2, b3, b4, b5, b6, s0, s1, s2, s3, s4, s5, hI⟩ := hI
      obtain rfl := hI.listed_eq
      obtain rfl := hI.act_eq
      have hbx := hI.h6 (hfin 6 (by simp))
      have hbl := hI.below
      clear hfin hI
      go_wp2_with fail
      go_meet
      exact ⟨hbx, ((Below.refl _ _).drew).trans (hbl.mono (Nat.le_refl _))⟩
  case rest =>
  rename World => wz
  obtain ⟨⟨m13, p13, cap13, rfl, hm13, k13, s13⟩, hbc⟩ := hcut
  simp only at k13 s13
  rw [HQ.out] at k13 s13
  replace A : Hid (Ag w wz (.slice p n cap) (.slice p' m cap') a c l u b d l' u' L M) := A.out.later hbc
  replace P6 : Hid (Pr wz w2.heap.size w6.heap.size m6 ra p6 q cap6 rc rl ru rL) := P6.out.later hbc
  replace P7 : Hid (Pr wz w6.heap.size w7.heap.size w7.heap.size a p7 n cap7 c l u (mks 1 n)) := P7.out.later hbc
  replace P8 : Hid (Pr wz y7.heap.size w8.heap.size w8.heap.size b p8 m cap8 d l' u' (mks (1 + 3 * (n : Int)) m)) := P8.out.later hbc
  replace P9 : Hid (Pr wz y8.heap.size w9.heap.size w9.heap.size ra p9 q cap9 rc rl ru (mks 1 q)) := P9.out.later hbc
  have P13 : Hid (Pr wz wJ.heap.size wz.heap.size m13 ra p13 q cap13 rc rl ru rL) := ⟨k13, s13⟩
  clear hbc k13 s13 H H' ba bb
  obtain ⟨_, x0, x1, x2, x3, x4, _⟩ := P13.out.box
  obtain ⟨_, r0, r1, r2, r3, r4, _⟩ := P6.out.box
  go_wp2_with fail
  refine (eqState_same _ true true _ _ _ _ _ _ _ rL _ _ _ P13.out.row P6.out.row).mono ?_
  rintro e wL ⟨rfl, hb⟩
  clear x0 x1 x2 x3 x4 r0 r1 r2 r3 r4
  replace A : Hid (Ag w wL (.slice p n cap) (.slice p' m cap') a c l u b d l' u' L M) := A.out.later hb
  replace P6 : Hid (Pr wL w2.heap.size w6.heap.size m6 ra p6 q cap6 rc rl ru rL) := P6.out.later hb
  replace P7 : Hid (Pr wL w6.heap.size w7.heap.size w7.heap.size a p7 n cap7 c l u (mks 1 n)) := P7.out.later hb
  replace P8 : Hid (Pr wL y7.heap.size w8.heap.size w8.heap.size b p8 m cap8 d l' u' (mks (1 + 3 * (n : Int)) m)) := P8.out.later hb
  replace P9 : Hid (Pr wL y8.heap.size w9.heap.size w9.heap.size ra p9 q cap9 rc rl ru (mks 1 q)) := P9.out.later hb
  replace P13 : Hid (Pr wL wJ.heap.size wz.heap.size m13 ra p13 q cap13 rc rl ru rL) := P13.out.later hb
  clear hb
  obtain ⟨_, x0, x1, x2, x3, x4, _⟩ := P9.out.box
  go_wp2_with fail
  refine (heldState_same _ true _ _ ra _ (rc, rl, ru) q 1 P9.out.row (by have := HRL.out; rw [HQ.out] at this; exact this) (by omega) (by omega)).mono ?_
  rintro e wM ⟨rfl, hy⟩
  clear x0 x1 x2 x3 x4
  replace A : Hid (Ag w wM (.slice p n cap) (.slice p' m cap') a c l u b d l' u' L M) := by rw [hy]; exact A.out.later ((Below.refl _ _).alloc (Nat.le_refl _) _)
  replace P6 : Hid (Pr wM w2.heap.size w6.heap.size m6 ra p6 q cap6 rc rl ru rL) := by rw [hy]; exact P6.out.later ((Below.refl _ _).alloc (Nat.le_refl _) _)
  replace P7 : Hid (Pr wM w6.heap.size w7.heap.size w7.heap.size a p7 n cap7 c l u (mks 1 n)) := by rw [hy]; exact P7.out.later ((Below.refl _ _).alloc (Nat.le_refl _) _)
  replace P8 : Hid (Pr wM y7.heap.size w8.heap.size w8.heap.size b p8 m cap8 d l' u' (mks (1 + 3 * (n : Int)) m)) := by rw [hy]; exact P8.out.later ((Below.refl _ _).alloc (Nat.le_refl _) _)
  replace P9 : Hid (Pr wM y8.heap.size w9.heap.size w9.heap.size ra p9 q cap9 rc rl ru (mks 1 q)) := by rw [hy]; exact P9.out.later ((Below.refl _ _).alloc (Nat.le_refl _) _)
  replace P13 : Hid (Pr wM wJ.heap.size wz.heap.size m13 ra p13 q cap13 rc rl ru rL) := by rw [hy]; exact P13.out.later ((Below.refl _ _).alloc (Nat.le_refl _) _)
  clear hy
  go_wp2_with fail
  go_ret
  exact ⟨rfl, A.out.below⟩
end Go.Proofs.Ytdomalclpjijaaa

/-
  A state and a row of numbers that are handed in, opened: what they read as.
-/
namespace Go.Proofs.Ytdomalclpjijaaa
open Go.ChangeShapes Go.WideShapes Go.ChangeAt Go.RowKit Go.Joins Go.Deep
set_option linter.unusedVariables false
set_option linter.unusedSimpArgs false

theorem cell_lt {w : World} {a : Addr} {v : Value} (h : w.cell? a = some v) : a.block < w.heap.size := by
  rcases Nat.lt_or_ge a.block w.heap.size with hl | hl
  · exact hl
  · exfalso
    have hn : w.heap[a.block]? = none := by simp; omega
    obtain ⟨b, o, s⟩ := a
    simp only at hn
    simp [World.cell?, hn] at h

section
variable {H : Type} {enc : TypeId × Value → H} {W : World} {spare : Nat → Bool} {held : Bool}

set_option maxRecDepth 100000 in
theorem open_span_cells {fuel : Nat} {cs : List Value} {x : DataW H × List MemPlace} (h : DataW.trod enc Try.prog W 0 spare held fuel 24 cs = some x) :
    ∃ (a : Bool) (l u : Int), cs = [.bool a, .int .i64 l, .int .i64 u] := by
  obtain ⟨y0, y1, y2, n, _, hl, h0, h1, h2⟩ := trod_struct3 Try.underlying24 h
  have hc : Try.prog.cellsOf 24 = 3 := by kernel_rfl
  have hb : Try.prog.cellsOf 4 = 1 := by kernel_rfl
  have hi : Try.prog.cellsOf 3 = 1 := by kernel_rfl
  rw [hc] at hl
  match cs, hl with
  | [c0, c1, c2], _ =>
    simp only [hb, hi, List.drop_zero, List.drop_succ_cons, List.take_succ_cons, List.take_zero] at h0 h1 h2
    obtain ⟨b, e0, _⟩ := DataW.trod_bool Try.underlying4 h0
    obtain ⟨l, e1, _⟩ := DataW.trod_int Try.underlying3 h1
    obtain ⟨u, e2, _⟩ := DataW.trod_int Try.underlying3 h2
    simp at e0 e1 e2
    subst e0 e1 e2
    exact ⟨b, l, u, rfl⟩

theorem list_of {n : Nat} (q : Nat → Sp) : ∃ L : List Sp, L.length = n ∧ ∀ j, j < n → L.getD j noSp = q j :=
  ⟨(List.range n).map q, by simp, fun j hj => by simp [List.getD, hj]⟩

set_option maxRecDepth 100000 in
theorem open_spans {fuel : Nat} {v : Value} {x : DataW H × List MemPlace} (h : DataW.trod enc Try.prog W 0 spare held fuel 22 [v] = some x) :
    ∃ L, SpsAt false W 0 W.heap.size v L := by
  have hc : Try.prog.cellsOf 24 = 3 := by kernel_rfl
  rcases open_slice Try.underlying22 h with ⟨hcs, _⟩ | ⟨a, len, cap, m, n, D, Pl, hcs, _, hl, hm, hmm, _, hx⟩
  · simp at hcs
    subst hcs
    exact ⟨[], SpsAt.nil⟩
  · simp at hcs
    subst hcs
    have hlm : len ≤ m := by rw [hmm]; split <;> omega
    have each : ∀ i, i < len → ∃ q : Sp, W.cell? (a.add (i * 3)) = some (.bool q.1) ∧ W.cell? (a.add (i * 3 + 1)) = some (.int .i64 q.2.1) ∧ W.cell? (a.add (i * 3 + 2)) = some (.int .i64 q.2.2) := by
      intro i hi
      obtain ⟨cs', h1, h2⟩ := hx i (by omega)
      rw [hc] at h1
      obtain ⟨_, hlen, hcell⟩ := World.cells?_some h1
      obtain ⟨b, l, u, rfl⟩ := open_span_cells h2
      have e0 := hcell 0 (by omega)
      have e1 := hcell 1 (by omega)
      have e2 := hcell 2 (by omega)
      rw [add_add] at e0 e1 e2
      exact ⟨(b, l, u), by simpa using e0, by simpa using e1, by simpa using e2⟩
    obtain ⟨q, hq⟩ := choose_lt each
    obtain ⟨L, hL, hget⟩ := list_of (n := len) q
    refine ⟨L, some a, cap, by rw [hL], by rw [hL]; omega, ?_⟩
    rw [hL]
    by_cases h0 : len = 0
    · exact .inl h0
    · right
      obtain ⟨b, off, spot⟩ := a
      have hspot : spot = none := by simpa [Addr.add] using World.cell?_spot (hq 0 (by omega)).1
      subst hspot
      have hlt : b < W.heap.size := by
        have := cell_lt (hq 0 (by omega)).1
        simpa [Addr.add] using this
      refine ⟨b, off, rfl, Nat.zero_le _, hlt, Nat.le_refl _, fun hz => (by cases hz), fun j hj => ?_⟩
      obtain ⟨g0, g1, g2⟩ := hq j hj
      rw [add_plain] at g0 g1 g2
      rw [hget j hj]
      exact ⟨g0, g1, g2⟩

theorem array5 {α : Type} {cs : Array α} (h : cs.size = 5) : ∃ c0 c1 c2 c3 c4, cs = #[c0, c1, c2, c3, c4] := by
  obtain ⟨l⟩ := cs
  match l, h with
  | [c0, c1, c2, c3, c4], _ => exact ⟨c0, c1, c2, c3, c4, rfl⟩

set_option maxRecDepth 100000 in
theorem open_state {r : Reach} {b0 : Nat} {v : Value} {d : DataW H} {p : List MemPlace} (hv : Value.okWide Try.prog W r b0 26 v) (h : DataW.Trod enc Try.prog W 0 spare held 26 v d p) :
    ∃ (a : Bool) (s : Value) (L : List Sp) (c : Bool) (l u : Int), v = .agg #[.bool a, s, .bool c, .int .i64 l, .int .i64 u] ∧ SpsAt false W 0 W.heap.size s L := by
  obtain ⟨cs, rfl, hsz⟩ := okWide_struct Try.underlying26 hv
  have hC : Try.prog.cellsOf 26 = 5 := by kernel_rfl
  have hb : Try.prog.cellsOf 4 = 1 := by kernel_rfl
  have hs : Try.prog.cellsOf 22 = 1 := by kernel_rfl
  have hc : Try.prog.cellsOf 24 = 3 := by kernel_rfl
  obtain ⟨c0, c1, c2, c3, c4, rfl⟩ := array5 (hsz.trans hC)
  obtain ⟨fuel, hf⟩ := h
  obtain ⟨y0, y1, y2, n, _, _, h0, h1, h2⟩ := trod_struct3 Try.underlying26 hf
  simp only [Value.cells, hb, hs, hc, List.drop_zero, List.drop_succ_cons, List.take_succ_cons, List.take_zero] at h0 h1 h2
  obtain ⟨b, e0, _⟩ := DataW.trod_bool Try.underlying4 h0
  obtain ⟨c, l, u, e2⟩ := open_span_cells h2
  obtain ⟨L, hL⟩ := open_spans h1
  simp at e0 e2
  obtain ⟨rfl, rfl, rfl⟩ := e2
  subst e0
  exact ⟨b, c1, L, c, l, u, rfl, hL⟩
end
end Go.Proofs.Ytdomalclpjijaaa
