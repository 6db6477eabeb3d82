import Derived.Test.YtlkebkajdlgebaaGreatB22
import Derived.Test.YtlkebkajdlgebaaGreatB30
import Derived.Test.YtlkebkajdlgebaaGreatB24
import Derived.Test.YtlkebkajdlgebaaGreatB23
import Derived.Test.YtlkebkajdlgebaaGreatB25
import Derived.Test.YtlkebkajdlgebaaGreatB16
import Derived.Test.YtlkebkajdlgebaaGreatB14
import Derived.Test.YtlkebkajdlgebaaGreatB26
/-
  What a call may give back, by sums: plain facts.
-/
namespace Go.Proofs.YtlkebkajdlgebaaGreat
open Go.RowKit
set_option linter.unusedVariables false
set_option linter.unusedSimpArgs false

def spJ (a b : Sp) : Sp := joinF a.1 a.2.1 a.2.2 b.1 b.2.1 b.2.2
/-- the first n kinds of K of the rows R, joined -/
def joinN (R : List Rw) (K : List Int) : Nat → Sp
  | 0 => noSp
  | j + 1 => spJ (joinN R K j) (R.getD (K.getD j 0).toNat rw0).o
/-- what the first n sums tell of a procedure -/
def outN (M : List Sm) (p : Int) (K : List Int) : Nat → Sp
  | 0 => noSp
  | n + 1 => if (M.getD n sm0).p = p then joinN (M.getD n sm0).R K K.length else outN M p K n
theorem outN_none {M : List Sm} {p : Int} {K : List Int} {n : Nat} (h : ∀ j, j < n → (M.getD j sm0).p ≠ p) : outN M p K n = noSp := by
  induction n with
  | zero => rfl
  | succ n ih =>
    show (if (M.getD n sm0).p = p then _ else _) = _
    rw [if_neg (h n (by omega))]
    exact ih fun j hj => h j (by omega)
theorem outN_at {M : List Sm} {p : Int} {K : List Int} {n j : Nat} (hj : j < n) (hp : (M.getD j sm0).p = p) (h : ∀ i, j < i → i < n → (M.getD i sm0).p ≠ p) : outN M p K n = joinN (M.getD j sm0).R K K.length := by
  induction n with
  | zero => omega
  | succ n ih =>
    show (if (M.getD n sm0).p = p then _ else _) = _
    by_cases e : j = n
    · subst e
      rw [if_pos hp]
    · rw [if_neg (h n (by omega) (by omega))]
      exact ih (by omega) fun i h1 h2 => h i h1 (by omega)
/-- the sums' procedures ascend -/
def Asc (M : List Sm) : Prop := ∀ i j, i < j → j < M.length → (M.getD i sm0).p < (M.getD j sm0).p
theorem asc_of {M : List Sm} (h : allB (sumLt M) (M.length - 1) = true) : Asc M := by
  have h1 := allB_all.1 h
  have h2 : ∀ j, j + 1 < M.length → (M.getD j sm0).p < (M.getD (j + 1) sm0).p := fun j hj => by
    have := h1 j (by omega)
    unfold sumLt at this
    rw [cmpF_lt] at this
    simpa using this
  intro i j
  induction j with
  | zero => intro hij; omega
  | succ j ih =>
    intro hij hj
    by_cases e : i = j
    · subst e; exact h2 i hj
    · have h3 := ih (by omega) (by omega)
      have h4 := h2 j hj
      omega
theorem KL_mem (a : Bool) (l u : Int) (k : Nat) (n : Int) (h : n ∈ KL a l u k) : 0 ≤ n ∧ n < k := by
  induction k with
  | zero => simp [KL] at h
  | succ k ih =>
    rw [KL, List.mem_append] at h
    rcases h with h | h
    · have := ih h; omega
    · split at h
      · simp at h; omega
      · simp at h
theorem KL_get (a : Bool) (l u : Int) (j : Nat) (h : j < (KL a l u 3).length) : 0 ≤ (KL a l u 3).getD j 0 ∧ (KL a l u 3).getD j 0 < 3 := by
  have hm : (KL a l u 3).getD j 0 ∈ KL a l u 3 := by
    rw [List.getD_eq_getElem?_getD, List.getElem?_eq_getElem h]
    exact List.getElem_mem h
  have := KL_mem a l u 3 _ hm
  exact ⟨this.1, by omega⟩
/-- sums that are ok: ascending, three rows each -/
theorem sumsF_parts {P : List (List I4)} {Q : Nat → Int → Bool} {M : List Sm} (h : sumsF P Q M = true) : Asc M ∧ ∀ j, j < M.length → (M.getD j sm0).R.length = 3 := by
  unfold sumsF at h
  rw [Bool.and_eq_true] at h
  refine ⟨asc_of h.2, fun j hj => ?_⟩
  have := allB_all.1 h.1 j hj
  simp only [sumF, Bool.and_eq_true, decide_eq_true_eq] at this
  exact this.1.2
/-- what a call may give back -/
def sumOutF (P : List (List I4)) (Q : Nat → Int → Bool) (M : List Sm) (p : Int) (a : Bool) (l u : Int) : Sp := if (progOkF P && sumsF P Q M) = true then outN M p (KL a l u 3) M.length else noSp

end Go.Proofs.YtlkebkajdlgebaaGreat

/-
  What a call may give back by sums that are ok: the contract of the program's outOf.
-/
namespace Go.Proofs.YtlkebkajdlgebaaGreat
open Go.RowKit
set_option linter.unusedVariables false
set_option linter.unusedSimpArgs false

/-- the three boxes of outOf and l12Out -/
def OutK (x0 : World) (a : Bool) (l u : Int) (z : World) (o : Sp) : Prop := Below x0.heap.size x0 z ∧ BxN z x0.heap.size [.bool a, .int .i64 l, .int .i64 u] ∧ BxN z (x0.heap.size + 1) [.bool false, .int .i64 0, .int .i64 0] ∧ BxN z (x0.heap.size + 2) [.bool o.1, .int .i64 o.2.1, .int .i64 o.2.2]
theorem OutK.later {x0 : World} {a : Bool} {l u : Int} {z y : World} {o : Sp} (h : OutK x0 a l u z o) (hb : Below z.heap.size z y) : OutK x0 a l u y o :=
  ⟨h.1.trans (hb.mono h.1.size), h.2.1.later hb, h.2.2.1.later hb, h.2.2.2.later hb⟩
theorem OutK.put {x0 : World} {a : Bool} {l u : Int} {z : World} {o : Sp} (h : OutK x0 a l u z o) (s : Sp) : OutK x0 a l u (set3 z (x0.heap.size + 2) 0 (.bool s.1) (.int .i64 s.2.1) (.int .i64 s.2.2)) s := by
  unfold set3
  refine ⟨((h.1.setCell (by simp) _).setCell (by simp) _).setCell (by simp) _, ((h.2.1.off (by omega)).off (by omega)).off (by omega), ((h.2.2.1.off (by omega)).off (by omega)).off (by omega), ?_⟩
  exact ((h.2.2.2.set 0 (by simp) _).set 1 (by simp) _).set 2 (by simp) _

set_option maxRecDepth 100000 in
set_option maxHeartbeats 8000000 in
theorem outOf_any (x0 : World) (v : Value) (M : List Sm) (h : SmsAt x0 v M) (hasc : Asc M) (h3 : ∀ j, j < M.length → (M.getD j sm0).R.length = 3) (p : Int) (a : Bool) (l u : Int) :
    Calls Tryz.prog 43 #[v, .int .i64 p, .agg #[.bool a, .int .i64 l, .int .i64 u]] x0 fun e y => RetSp (outN M p (KL a l u 3) M.length) e ∧ Below x0.heap.size x0 y := by
  obtain ⟨ps, cs, rfl, hm⟩ := h.shape
  unfold maxLen at hm
  have hmi : (M.length : Int) ≤ 9223372036854775807 := by omega
  have HM : Hid (SmsAt x0 (.slice ps M.length cs) M) := h
  have HA : Hid (Asc M) := hasc
  have H3 : Hid (∀ j, j < M.length → (M.getD j sm0).R.length = 3) := h3
  have HKG : Hid (∀ j, j < (KL a l u 3).length → 0 ≤ (KL a l u 3).getD j 0 ∧ (KL a l u 3).getD j 0 < 3) := KL_get a l u
  have HKS : Hid (∀ z : World, Calls Tryz.prog 67 #[.agg #[.bool a, .int .i64 l, .int .i64 u]] z fun e y => ∃ v, e = .returned v ∧ Owns y (z.heap.size + 1) v (KL a l u 3) ∧ Below z.heap.size z y) := fun z => kinds_impl a l u z
  have hkl := KL_len a l u 3
  generalize KL a l u 3 = K at *
  clear h hasc h3 hm
  generalize hmn : M.length = mn at *
  have HMN : Hid (M.length = mn) := hmn
  clear hmn
  obtain ⟨OV, hOV⟩ : ∃ OV, outN M p K mn = OV := ⟨_, rfl⟩
  rw [hOV]
  have HOV : Hid (outN M p K mn = OV) := hOV
  clear hOV
  go_enter Tryz.func43, Tryz.ntmps43
  go_wp2_with fail
  have HX : Hid (OutK x0 a l u (((x0.alloc (.cells #[.bool a, .int .i64 l, .int .i64 u] 47)).alloc (.cells #[.bool false, .int .i64 0, .int .i64 0] 47)).alloc (.cells #[.bool false, .int .i64 0, .int .i64 0] 47)) noSp) := by
    have h1 : BxN (x0.alloc (.cells #[.bool a, .int .i64 l, .int .i64 u] 47)) x0.heap.size [.bool a, .int .i64 l, .int .i64 u] := BxN.new x0 [_, _, _] _
    have h2 : BxN ((x0.alloc (.cells #[.bool a, .int .i64 l, .int .i64 u] 47)).alloc (.cells #[.bool false, .int .i64 0, .int .i64 0] 47)) (x0.heap.size + 1) [.bool false, .int .i64 0, .int .i64 0] := by simpa using BxN.new (x0.alloc (.cells #[.bool a, .int .i64 l, .int .i64 u] 47)) [.bool false, .int .i64 0, .int .i64 0] 47
    have h3 : BxN (((x0.alloc (.cells #[.bool a, .int .i64 l, .int .i64 u] 47)).alloc (.cells #[.bool false, .int .i64 0, .int .i64 0] 47)).alloc (.cells #[.bool false, .int .i64 0, .int .i64 0] 47)) (x0.heap.size + 2) [.bool false, .int .i64 0, .int .i64 0] := by simpa using BxN.new ((x0.alloc (.cells #[.bool a, .int .i64 l, .int .i64 u] 47)).alloc (.cells #[.bool false, .int .i64 0, .int .i64 0] 47)) [.bool false, .int .i64 0, .int .i64 0] 47
    have b : ∀ (z : World) (o : Obj), Below z.heap.size z (z.alloc o) := fun z o => (Below.refl _ _).alloc (Nat.le_refl _) _
    exact ⟨(((Below.refl _ _).alloc (Nat.le_refl _) _).alloc (by simp) _).alloc (by simp <;> omega) _, (h1.later (b _ _)).later (b _ _), h2.later (b _ _), h3⟩
  generalize ((x0.alloc (.cells #[.bool a, .int .i64 l, .int .i64 u] 47)).alloc (.cells #[.bool false, .int .i64 0, .int .i64 0] 47)).alloc (.cells #[.bool false, .int .i64 0, .int .i64 0] 47) = X at HX ⊢
  go_loopw [15] (fun i z => ∃ k : Nat, k ≤ mn ∧ i = .int .i64 k ∧ Hid (OutK x0 a l u z (outN M p K k))) (fun i _ => mn - (RowKit.intOf i).toNat)
  case atStart => exact ⟨0, by omega, rfl, HX.out⟩
  case round =>
    obtain ⟨k, hk, rfl, HR⟩ := hrel
    have hRs := HR.out.1.size
    by_cases hlt : k < mn
    · have hki : (k : Int) < (mn : Int) := by omega
      obtain ⟨g, o, rfl, hgx, hS⟩ := SmsAt.sum (p := ps) (cap := cs) (M := M) (j := k) (by have := HM.out; rw [HMN.out]; exact this) (by rw [HMN.out]; exact hlt)
      obtain ⟨q0x, ⟨uR, q1x, hR⟩⟩ := hS
      have q0 := (HR.out.1.cell (p := ⟨g, o + k * 2, none⟩) hgx).trans q0x
      have q1 := (HR.out.1.cell (p := ⟨g, o + k * 2 + 1, none⟩) hgx).trans q1x
      obtain ⟨pR, cR, rfl, _⟩ := hR.shape
      have hgw : g < wr.heap.size := Nat.lt_of_lt_of_le hgx hRs
      have HR3 := H3.out k hlt
      have HN : Hid (outN M p K (k + 1) = if (M.getD k sm0).p = p then joinN (M.getD k sm0).R K K.length else outN M p K k) := rfl
      have HNO : Hid ((M.getD k sm0).p = p → outN M p K k = noSp) := fun e => outN_none fun j hj => by have := HA.out j k hj (by rw [HMN.out]; exact hlt); omega
      generalize M.getD k sm0 = s at *
      have HRW : Hid (RowsAt x0 (.slice pR s.R.length cR) s.R) := hR
      clear q1x q0x
      rw [HR3] at q1 HRW
      have HR3H : Hid (s.R.length = 3) := HR3
      by_cases hp : s.p = p
      · have hpb : (s.p != p) = false := by simp [hp]
        have HN2 : Hid (outN M p K (k + 1) = joinN s.R K K.length) := by show _ = _; rw [HN.out, if_pos hp]
        rw [HNO.out hp] at HR
        have KB := HR.out.2.1
        have b0 := (KB.later ((Below.refl wr.heap.size wr).alloc (Nat.le_refl _) (.cells #[.int .i64 s.p, .slice pR 3 cR] 33))).c 0 _ rfl
        have b1 := (KB.later ((Below.refl wr.heap.size wr).alloc (Nat.le_refl _) (.cells #[.int .i64 s.p, .slice pR 3 cR] 33))).c 1 _ rfl
        have b2 := (KB.later ((Below.refl wr.heap.size wr).alloc (Nat.le_refl _) (.cells #[.int .i64 s.p, .slice pR 3 cR] 33))).c 2 _ rfl
        have bl := KB.lt
        clear HN HNO KB hR HR3
        have HP : Hid (s.p = p) := hp
        clear hp
        go_wp2_with fail
        have HZ : Hid (OutK x0 a l u (wr.alloc (.cells #[.int .i64 s.p, .slice pR 3 cR] 33)) noSp ∧ BxN (wr.alloc (.cells #[.int .i64 s.p, .slice pR 3 cR] 33)) wr.heap.size [.int .i64 s.p, .slice pR 3 cR]) := ⟨HR.out.later ((Below.refl _ _).alloc (Nat.le_refl _) _), BxN.new wr [_, _] _⟩
        have hwzs : x0.heap.size + 2 < wr.heap.size := HR.out.2.2.2.lt
        have hZs : (wr.alloc (.cells #[.int .i64 s.p, .slice pR 3 cR] 33)).heap.size = wr.heap.size + 1 := by simp
        clear b0 b1 b2 bl HR q0 q1
        generalize hwz : wr.heap.size = wz at *
        generalize wr.alloc (.cells #[.int .i64 s.p, .slice pR 3 cR] 33) = Z at HZ hZs ⊢
        refine (HKS.out Z).mono ?_
        rintro e y ⟨vK, rfl, hown, hb⟩
        obtain ⟨pK, cK, rfl, _, hlK⟩ := hown.look
        have HY : Hid (OutK x0 a l u y noSp ∧ BxN y wz [.int .i64 s.p, .slice pR 3 cR]) := ⟨HZ.out.1.later hb, HZ.out.2.later hb⟩
        have HLK : Hid (∀ j, j < K.length → ∃ gK, pK = some ⟨gK, 0, none⟩ ∧ x0.heap.size + 2 < gK ∧ gK < y.heap.size ∧ y.cell? ⟨gK, j, none⟩ = some (.int .i64 (K.getD j 0))) := fun j hj => by
          rcases hlK with h0 | ⟨gK, e, hBg, hg, hc⟩
          · omega
          · exact ⟨gK, e, by omega, hg, (hc j hj).1⟩
        clear hown hb hlK HZ HKS
        generalize hkn : K.length = kn at *
        have HKN : Hid (K.length = kn) := hkn
        clear hkn
        have hkni : (kn : Int) ≤ 3 := by omega
        go_wp2_with fail
        go_loopw [26] (fun i z => ∃ j : Nat, j ≤ kn ∧ i = .int .i64 j ∧ Hid (OutK x0 a l u z (joinN s.R K j) ∧ BxN z wz [.int .i64 s.p, .slice pR 3 cR] ∧ y.heap.size ≤ z.heap.size ∧ (∀ g i, g ≠ x0.heap.size + 2 → g < y.heap.size → z.cell? ⟨g, i, none⟩ = y.cell? ⟨g, i, none⟩))) (fun i _ => kn - (RowKit.intOf i).toNat)
        case atStart => exact ⟨0, by omega, rfl, HY.out.1, HY.out.2, Nat.le_refl _, fun _ _ _ _ => rfl⟩
        case round =>
          obtain ⟨j, hj, rfl, HI⟩ := hrel
          by_cases hj3 : j < kn
          · have hji : (j : Int) < (kn : Int) := by omega
            obtain ⟨gK, rfl, hgK2, hgK, hcK⟩ := HLK.out j hj3
            have kq := (HI.out.2.2.2 gK j (by omega) hgK).trans hcK
            have hgKw : gK < wr.heap.size := by have := HI.out.2.2.1; omega
            have hkd := HKG.out j hj3
            have HJN : Hid (joinN s.R K (j + 1) = spJ (joinN s.R K j) (s.R.getD (K.getD j 0).toNat rw0).o) := rfl
            obtain ⟨kd, hkd2⟩ : ∃ kd : Nat, K.getD j 0 = kd := ⟨(K.getD j 0).toNat, by omega⟩
            rw [hkd2] at kq hkd HJN
            have hkd3 : kd < 3 := by omega
            have hkdi : (kd : Int) < 3 := by omega
            obtain ⟨gR, oR, rfl, hgR, hrw⟩ := RowsAt.row (p := pR) (cap := cR) (R := s.R) (j := kd) (by have := HRW.out; rw [HR3H.out]; exact this) (by rw [HR3H.out]; exact hkd3)
            obtain ⟨r0, r1, r2, _, _⟩ := hrw
            rw [Int.toNat_natCast] at HJN
            have HQ : Hid (x0.cell? ⟨gR, oR + kd * 5, none⟩ = some (.bool (s.R.getD kd rw0).o.1) ∧ x0.cell? ⟨gR, oR + kd * 5 + 1, none⟩ = some (.int .i64 (s.R.getD kd rw0).o.2.1) ∧ x0.cell? ⟨gR, oR + kd * 5 + 2, none⟩ = some (.int .i64 (s.R.getD kd rw0).o.2.2)) := ⟨r0, r1, r2⟩
            clear hcK hkd hkd2 r0 r1 r2
            generalize (s.R.getD kd rw0).o = ro at HQ HJN
            generalize joinN s.R K j = jo at HI HJN
            have HCJ : Hid (∀ z : World, Calls Tryz.prog 68 #[.agg #[.bool jo.1, .int .i64 jo.2.1, .int .i64 jo.2.2], .agg #[.bool ro.1, .int .i64 ro.2.1, .int .i64 ro.2.2]] z fun e y => e = .returned (.agg #[.bool (spJ jo ro).1, .int .i64 (spJ jo ro).2.1, .int .i64 (spJ jo ro).2.2]) ∧ Below z.heap.size z y) := fun z => join_impl jo.1 jo.2.1 jo.2.2 ro.1 ro.2.1 ro.2.2 z
            generalize spJ jo ro = sj at HCJ HJN
            have sb := HI.out.2.1
            have sb0 := sb.c 1 _ rfl
            have sbl := sb.lt
            clear sb
            go_wp2_with fail
            clear sb0 sbl
            refine wp_region_store (by kernel_rfl) (by kernel_rfl) (by kernel_rfl) (by kernel_rfl) 8 (by kernel_rfl) (by kernel_rfl) _ rfl (fun j => [(fun v _ => v = .agg #[.bool jo.1, .int .i64 jo.2.1, .int .i64 jo.2.2]), (fun v _ => v = .pointer (some ⟨wz, 1, none⟩)), (fun v _ => v = .slice (some ⟨gR, oR, none⟩) 3 cR), (fun v _ => v = .int .i64 ↑kd), (fun v _ => v = .pointer (some ⟨gR, oR + kd * 5, none⟩)), (fun v _ => v = .pointer (some ⟨gR, oR + kd * 5, none⟩)), (fun v _ => v = .agg #[.bool ro.1, .int .i64 ro.2.1, .int .i64 ro.2.2]), (fun v _ => v = .agg #[.bool sj.1, .int .i64 sj.2.1, .int .i64 sj.2.2])].getD j (fun _ _ => True)) ?stable wr ((Below.refl _ _).drew) ?step (fun V => ⟨List.toArray ((.slice (some ⟨g, o, none⟩) mn cs) :: (.int .i64 p) :: (.agg #[.bool a, .int .i64 l, .int .i64 u]) :: (undef) :: (undef) :: (.pointer (some ⟨x0.heap.size, 0, none⟩)) :: (.pointer (some ⟨x0.heap.size + 1, 0, none⟩)) :: (.pointer (some ⟨x0.heap.size + 1 + 1, 0, none⟩)) :: (undef) :: (.pointer (some ⟨wz, 0, none⟩)) :: (undef) :: (.int .i64 ↑kd) :: (.agg #[.bool false, .int .i64 0, .int .i64 0]) :: (.slice (some ⟨g, o, none⟩) mn cs) :: (.int .i64 ↑mn) :: (.int .i64 ↑k) :: (.bool true) :: (.pointer (some ⟨g, o + k * 2, none⟩)) :: (.agg #[.int .i64 s.p, .slice (some ⟨gR, oR, none⟩) 3 cR]) :: (.pointer (some ⟨wz, 0, none⟩)) :: (.int .i64 s.p) :: (.int .i64 p) :: (.bool false) :: (.agg #[.bool a, .int .i64 l, .int .i64 u]) :: (.slice (some ⟨gK, 0, none⟩) kn cK) :: (.int .i64 ↑kn) :: (.int .i64 ↑j) :: (.bool true) :: (.pointer (some ⟨gK, j, none⟩)) :: (.int .i64 ↑kd) :: (V 0) :: (V 1) :: (V 2) :: (V 3) :: (V 4) :: (V 5) :: (V 6) :: (V 7) :: (u38) :: (u39) :: (undef) :: []), []⟩) (fun V => by kernel_rfl) ?last
            case stable =>
              intro i v x y ht hb
              rcases i with _ | i
              · exact ht
              rcases i with _ | i
              · exact ht
              rcases i with _ | i
              · exact ht
              rcases i with _ | i
              · exact ht
              rcases i with _ | i
              · exact ht
              rcases i with _ | i
              · exact ht
              rcases i with _ | i
              · exact ht
              rcases i with _ | i
              · exact ht
              exact trivial
            case step =>
              intro i o hin ho ρ y x hBx hdep hout
              rcases i with _ | i
              · obtain rfl := Option.some.inj ho
                have o7 : ρ (.tmp 7) = .pointer (some ⟨x0.heap.size + 1 + 1, 0, none⟩) := hout (.tmp 7) rfl
                clear hdep hout
                refine .inl ⟨rfl, ?_⟩
                have kb := HI.out.1.2.2.2.later hBx
                have c0 := kb.c 0 _ rfl
                have c1 := kb.c 1 _ rfl
                have c2 := kb.c 2 _ rfl
                have cl0 := kb.lt
                show GivesP _ _ _ (fun v _ => v = .agg #[.bool jo.1, .int .i64 jo.2.1, .int .i64 jo.2.2]) _
                refine GivesP.val (.agg #[.bool jo.1, .int .i64 jo.2.1, .int .i64 jo.2.2]) rfl ?_
                go_simp
              rcases i with _ | i
              · obtain rfl := Option.some.inj ho
                have o9 : ρ (.tmp 9) = .pointer (some ⟨wz, 0, none⟩) := hout (.tmp 9) rfl
                clear hdep hout
                refine .inl ⟨rfl, ?_⟩
                show GivesP _ _ _ (fun v _ => v = .pointer (some ⟨wz, 1, none⟩)) _
                refine GivesP.val (.pointer (some ⟨wz, 1, none⟩)) rfl ?_
                go_simp
              rcases i with _ | i
              · obtain rfl := Option.some.inj ho
                have e1 : ρ (.tmp 31) = .pointer (some ⟨wz, 1, none⟩) := (hdep ⟨1, .data⟩ (by simp) rfl 31 rfl).1
                clear hdep hout
                refine .inl ⟨rfl, ?_⟩
                have sb := HI.out.2.1.later hBx
                have s0 := sb.c 0 _ rfl
                have s1 := sb.c 1 _ rfl
                have sl := sb.lt
                show GivesP _ _ _ (fun v _ => v = .slice (some ⟨gR, oR, none⟩) 3 cR) _
                refine GivesP.val (.slice (some ⟨gR, oR, none⟩) 3 cR) rfl ?_
                go_simp
              rcases i with _ | i
              · obtain rfl := Option.some.inj ho
                have o11 : ρ (.tmp 11) = .int .i64 ↑kd := hout (.tmp 11) rfl
                clear hdep hout
                refine .inl ⟨rfl, ?_⟩
                show GivesP _ _ _ (fun v _ => v = .int .i64 ↑kd) _
                refine GivesP.val (.int .i64 ↑kd) rfl ?_
                go_simp
              rcases i with _ | i
              · obtain rfl := Option.some.inj ho
                have e2 : ρ (.tmp 32) = .slice (some ⟨gR, oR, none⟩) 3 cR := (hdep ⟨2, .data⟩ (by simp) rfl 32 rfl).1
                have e3 : ρ (.tmp 33) = .int .i64 ↑kd := (hdep ⟨3, .data⟩ (by simp) rfl 33 rfl).1
                clear hdep hout
                refine .inl ⟨rfl, ?_⟩
                show GivesP _ _ _ (fun v _ => v = .pointer (some ⟨gR, oR + kd * 5, none⟩)) _
                refine GivesP.val (.pointer (some ⟨gR, oR + kd * 5, none⟩)) rfl ?_
                go_simp
              rcases i with _ | i
              · obtain rfl := Option.some.inj ho
                have e4 : ρ (.tmp 34) = .pointer (some ⟨gR, oR + kd * 5, none⟩) := (hdep ⟨4, .data⟩ (by simp) rfl 34 rfl).1
                clear hdep hout
                refine .inl ⟨rfl, ?_⟩
                show GivesP _ _ _ (fun v _ => v = .pointer (some ⟨gR, oR + kd * 5, none⟩)) _
                refine GivesP.val (.pointer (some ⟨gR, oR + kd * 5, none⟩)) rfl ?_
                go_simp
              rcases i with _ | i
              · obtain rfl := Option.some.inj ho
                have e5 : ρ (.tmp 35) = .pointer (some ⟨gR, oR + kd * 5, none⟩) := (hdep ⟨5, .data⟩ (by simp) rfl 35 rfl).1
                clear hdep hout
                refine .inl ⟨rfl, ?_⟩
                have hbz := HI.out.1.1.trans (hBx.mono HI.out.1.1.size)
                have m0 := (hbz.cell (p := ⟨gR, oR + kd * 5, none⟩) hgR).trans HQ.out.1
                have m1 := (hbz.cell (p := ⟨gR, oR + kd * 5 + 1, none⟩) hgR).trans HQ.out.2.1
                have m2 := (hbz.cell (p := ⟨gR, oR + kd * 5 + 2, none⟩) hgR).trans HQ.out.2.2
                show GivesP _ _ _ (fun v _ => v = .agg #[.bool ro.1, .int .i64 ro.2.1, .int .i64 ro.2.2]) _
                refine GivesP.val (.agg #[.bool ro.1, .int .i64 ro.2.1, .int .i64 ro.2.2]) rfl ?_
                go_simp
              rcases i with _ | i
              · obtain rfl := Option.some.inj ho
                have e0 : ρ (.tmp 30) = .agg #[.bool jo.1, .int .i64 jo.2.1, .int .i64 jo.2.2] := (hdep ⟨0, .data⟩ (by simp) rfl 30 rfl).1
                have e6 : ρ (.tmp 36) = .agg #[.bool ro.1, .int .i64 ro.2.1, .int .i64 ro.2.2] := (hdep ⟨6, .data⟩ (by simp) rfl 36 rfl).1
                have ofn : ∀ f, ρ (.func f) = .func (.func f) #[] #[] := fun f => hout (.func f) rfl
                clear hdep hout
                refine .inl ⟨rfl, ?_⟩
                show GivesP _ _ _ (fun v _ => v = .agg #[.bool sj.1, .int .i64 sj.2.1, .int .i64 sj.2.2]) _
                refine GivesP.call ((HCJ.out x).mono fun e w9 h9 => ⟨_, h9.1, rfl, h9.2⟩) ?_
                go_simp
              exact absurd hin (by omega)
            case last =>
              intro V x hBx hV
              have e7 : V 7 = .agg #[.bool sj.1, .int .i64 sj.2.1, .int .i64 sj.2.2] := hV 7 (by omega)
              clear hV
              have HX9 := HI.out.1.later hBx
              have SB9 := HI.out.2.1.later hBx
              have hsz := hBx.size
              have HC9 : Hid (∀ g i, g ≠ x0.heap.size + 2 → g < y.heap.size → x.cell? ⟨g, i, none⟩ = y.cell? ⟨g, i, none⟩) := fun g i h1 h2 => (hBx.cell (p := ⟨g, i, none⟩) (by have := HI.out.2.2.1; show g < _; omega)).trans (HI.out.2.2.2 g i h1 h2)
              have HP9 : Hid (OutK x0 a l u (set3 x (x0.heap.size + 2) 0 (.bool sj.1) (.int .i64 sj.2.1) (.int .i64 sj.2.2)) sj ∧ BxN (set3 x (x0.heap.size + 2) 0 (.bool sj.1) (.int .i64 sj.2.1) (.int .i64 sj.2.2)) wz [.int .i64 s.p, .slice (some ⟨gR, oR, none⟩) 3 cR] ∧ y.heap.size ≤ (set3 x (x0.heap.size + 2) 0 (.bool sj.1) (.int .i64 sj.2.1) (.int .i64 sj.2.2)).heap.size ∧ (∀ g i, g ≠ x0.heap.size + 2 → g < y.heap.size → (set3 x (x0.heap.size + 2) 0 (.bool sj.1) (.int .i64 sj.2.1) (.int .i64 sj.2.2)).cell? ⟨g, i, none⟩ = y.cell? ⟨g, i, none⟩)) := by
                refine ⟨HX9.put sj, ?_, by rw [set3_size]; have := HI.out.2.2.1; omega, fun g i h1 h2 => (set3_miss _ _ _ _ _ _ _ _ (.inl h1)).trans (HC9.out g i h1 h2)⟩
                unfold set3
                exact ((SB9.off (by omega)).off (by omega)).off (by omega)
              have rl := HX9.2.2.2.lt
              have z0 := HX9.2.2.2.fz 0
              have z1 := HX9.2.2.2.fz 1
              have z2 := HX9.2.2.2.fz 2
              have k0 := HX9.2.2.2.c 0 _ rfl
              have k1 := HX9.2.2.2.c 1 _ rfl
              have k2 := HX9.2.2.2.c 2 _ rfl
              clear HX9 SB9 HC9 HI hBx
              refine ⟨set3 x (x0.heap.size + 2) 0 (.bool sj.1) (.int .i64 sj.2.1) (.int .i64 sj.2.2), ?_, ?_⟩
              · unfold set3
                go_simp
              · generalize set3 x (x0.heap.size + 2) 0 (.bool sj.1) (.int .i64 sj.2.1) (.int .i64 sj.2.2) = x9 at HP9 ⊢
                clear rl z0 z1 z2 k0 k1 k2
                go_wp2_with fail
                go_roundw
                case rel => exact ⟨j + 1, by omega, by go_num, by rw [HJN.out]; exact HP9.out.1, HP9.out.2.1, HP9.out.2.2.1, HP9.out.2.2.2⟩
                case measure => simp [RowKit.intOf]; omega
          · obtain rfl : j = kn := by omega
            have hji : ¬ (j : Int) < (j : Int) := by omega
            have HZ2 : Hid (OutK x0 a l u wr (outN M p K (k + 1))) := by rw [HN2.out]; have := HI.out.1; exact this
            clear HI HLK
            go_wp2_with fail
            go_roundw
            case rel => exact ⟨k + 1, by omega, by go_num, HZ2⟩
            case measure => simp [RowKit.intOf]; omega
      · have hpb : (s.p != p) = true := by simp [hp]
        have HN2 : Hid (outN M p K (k + 1) = outN M p K k) := by show _ = _; rw [HN.out, if_neg hp]
        clear HN HNO hR HR3
        go_wp2_with fail
        have HZ : Hid (OutK x0 a l u (wr.alloc (.cells #[.int .i64 s.p, .slice pR 3 cR] 33)) (outN M p K (k + 1))) := by rw [HN2.out]; exact HR.out.later ((Below.refl _ _).alloc (Nat.le_refl _) _)
        clear q0 q1 HR HN2
        go_roundw
        case rel => exact ⟨k + 1, by omega, by go_num, HZ⟩
        case measure => simp [RowKit.intOf]; omega
    · obtain rfl : k = mn := by omega
      have hki : ¬ (k : Int) < (k : Int) := by omega
      rw [HOV.out] at HR
      obtain ⟨KB, _, K1, K2⟩ := HR.out
      have a0 := K2.c 0 _ rfl
      have a1 := K2.c 1 _ rfl
      have a2 := K2.c 2 _ rfl
      have c0 := K1.c 0 _ rfl
      have c1 := K1.c 1 _ rfl
      have c2 := K1.c 2 _ rfl
      have f0 := K1.fz 0
      have f1 := K1.fz 1
      have f2 := K1.fz 2
      have l1 := K1.lt
      have l2 := K2.lt
      clear K1 K2 HR HX
      have HBB : Hid (Below x0.heap.size x0 wr) := KB
      clear KB
      go_wp2_with fail
      refine bodyPost_ret (v := .agg #[.bool OV.1, .int .i64 OV.2.1, .int .i64 OV.2.2]) (by simp [results, Tryz.results43, go_sem, c0, c1, c2]) rfl ⟨rfl, ?_⟩
      exact ((HBB.out.setCell (by simp) _).setCell (by simp) _).setCell (by simp) _

end Go.Proofs.YtlkebkajdlgebaaGreat

/-
  What a call may give back by sums that are ok: the contracts of the model's l12Find and l12Out.
-/
namespace Go.Proofs.YtlkebkajdlgebaaGreat
open Go.RowKit
set_option linter.unusedVariables false
set_option linter.unusedSimpArgs false

set_option maxHeartbeats 2000000 in
theorem l12Find_any (x : World) (v : Value) (M : List Sm) (h : SmsAt x v M) (p : Int) :
    Calls Tryz.prog 64 #[v, .int .i64 p] x fun e y => ∃ i : Int, e = .returned (.int .i64 i) ∧ ((i = -1 ∧ ∀ j, j < M.length → (M.getD j sm0).p ≠ p) ∨ ∃ k : Nat, i = k ∧ k < M.length ∧ (M.getD k sm0).p = p ∧ ∀ j, j < k → (M.getD j sm0).p ≠ p) ∧ Below x.heap.size x y := by
  obtain ⟨ps, cs, rfl, hm⟩ := h.shape
  unfold maxLen at hm
  have hmi : (M.length : Int) ≤ 9223372036854775807 := by omega
  have HM : Hid (SmsAt x (.slice ps M.length cs) M) := h
  clear h hm
  generalize hmn : M.length = mn at *
  have HMN : Hid (M.length = mn) := hmn
  clear hmn
  go_enter Tryz.func64, Tryz.ntmps64
  go_wp2_with fail
  go_loopw [5] (fun t y => ∃ k : Nat, k ≤ mn ∧ t = .int .i64 k ∧ y = x ∧ Hid (∀ j, j < k → (M.getD j sm0).p ≠ p)) (fun t _ => mn - (RowKit.intOf t).toNat)
  case atStart => exact ⟨0, by omega, rfl, rfl, fun j hj => by omega⟩
  case round =>
    obtain ⟨k, hk, rfl, rfl, hd⟩ := hrel
    by_cases hlt : k < mn
    · have hki : (k : Int) < (mn : Int) := by omega
      obtain ⟨g, o, rfl, hgx, hS⟩ := SmsAt.sum (p := ps) (cap := cs) (M := M) (j := k) (by have := HM.out; rw [HMN.out]; exact this) (by rw [HMN.out]; exact hlt)
      have q0 := hS.c0
      clear hS
      generalize hI : (M.getD k sm0).p = I at q0
      have HI : Hid ((M.getD k sm0).p = I) := hI
      clear hI
      by_cases hn : I = p
      · subst hn
        go_wp2_with fail
        go_ret
        exact ⟨k, rfl, .inr ⟨k, rfl, hlt, HI.out, hd.out⟩, Below.refl _ _⟩
      · have hnb : (I == p) = false := by simp [hn]
        have HN : Hid (I ≠ p) := hn
        clear hn
        go_wp2_with fail
        go_roundw
        case rel =>
          refine ⟨k + 1, by omega, by go_num, trivial, fun j hj => ?_⟩
          rcases (by omega : j < k ∨ j = k) with h | rfl
          · exact hd.out j h
          · rw [HI.out]; exact HN.out
        case measure => simp [RowKit.intOf]; omega
    · obtain rfl : k = mn := by omega
      have hki : ¬ (k : Int) < (k : Int) := by omega
      go_wp2_with fail
      go_ret
      exact ⟨-1, rfl, .inl ⟨rfl, hd.out⟩, Below.refl _ _⟩

set_option maxRecDepth 100000 in
set_option maxHeartbeats 8000000 in
theorem l12Out_any (x0 : World) (v : Value) (M : List Sm) (h : SmsAt x0 v M) (hasc : Asc M) (h3 : ∀ j, j < M.length → (M.getD j sm0).R.length = 3) (p : Int) (a : Bool) (l u : Int) :
    Calls Tryz.prog 42 #[v, .int .i64 p, .agg #[.bool a, .int .i64 l, .int .i64 u]] x0 fun e y => RetSp (outN M p (KL a l u 3) M.length) e ∧ Below x0.heap.size x0 y := by
  obtain ⟨ps, cs, rfl, hm⟩ := h.shape
  unfold maxLen at hm
  have hmi : (M.length : Int) ≤ 9223372036854775807 := by omega
  have HM : Hid (SmsAt x0 (.slice ps M.length cs) M) := h
  have HA : Hid (Asc M) := hasc
  have H3 : Hid (∀ j, j < M.length → (M.getD j sm0).R.length = 3) := h3
  have HKG : Hid (∀ j, j < (KL a l u 3).length → 0 ≤ (KL a l u 3).getD j 0 ∧ (KL a l u 3).getD j 0 < 3) := KL_get a l u
  have HKS : Hid (∀ z : World, Calls Tryz.prog 65 #[.agg #[.bool a, .int .i64 l, .int .i64 u]] z fun e y => ∃ v, e = .returned v ∧ Owns y (z.heap.size + 1) v (KL a l u 3) ∧ Below z.heap.size z y) := fun z => kinds_spec a l u z
  have hkl := KL_len a l u 3
  generalize KL a l u 3 = K at *
  clear h hasc h3 hm
  generalize hmn : M.length = mn at *
  have HMN : Hid (M.length = mn) := hmn
  clear hmn
  obtain ⟨OV, hOV⟩ : ∃ OV, outN M p K mn = OV := ⟨_, rfl⟩
  rw [hOV]
  have HOV : Hid (outN M p K mn = OV) := hOV
  clear hOV
  go_enter Tryz.func42, Tryz.ntmps42
  go_wp2_with fail
  have HX : Hid (OutK x0 a l u (((x0.alloc (.cells #[.bool a, .int .i64 l, .int .i64 u] 47)).alloc (.cells #[.bool false, .int .i64 0, .int .i64 0] 47)).alloc (.cells #[.bool false, .int .i64 0, .int .i64 0] 47)) noSp) := by
    have h1 : BxN (x0.alloc (.cells #[.bool a, .int .i64 l, .int .i64 u] 47)) x0.heap.size [.bool a, .int .i64 l, .int .i64 u] := BxN.new x0 [_, _, _] _
    have h2 : BxN ((x0.alloc (.cells #[.bool a, .int .i64 l, .int .i64 u] 47)).alloc (.cells #[.bool false, .int .i64 0, .int .i64 0] 47)) (x0.heap.size + 1) [.bool false, .int .i64 0, .int .i64 0] := by simpa using BxN.new (x0.alloc (.cells #[.bool a, .int .i64 l, .int .i64 u] 47)) [.bool false, .int .i64 0, .int .i64 0] 47
    have h3 : BxN (((x0.alloc (.cells #[.bool a, .int .i64 l, .int .i64 u] 47)).alloc (.cells #[.bool false, .int .i64 0, .int .i64 0] 47)).alloc (.cells #[.bool false, .int .i64 0, .int .i64 0] 47)) (x0.heap.size + 2) [.bool false, .int .i64 0, .int .i64 0] := by simpa using BxN.new ((x0.alloc (.cells #[.bool a, .int .i64 l, .int .i64 u] 47)).alloc (.cells #[.bool false, .int .i64 0, .int .i64 0] 47)) [.bool false, .int .i64 0, .int .i64 0] 47
    have b : ∀ (z : World) (o : Obj), Below z.heap.size z (z.alloc o) := fun z o => (Below.refl _ _).alloc (Nat.le_refl _) _
    exact ⟨(((Below.refl _ _).alloc (Nat.le_refl _) _).alloc (by simp) _).alloc (by simp <;> omega) _, (h1.later (b _ _)).later (b _ _), h2.later (b _ _), h3⟩
  generalize ((x0.alloc (.cells #[.bool a, .int .i64 l, .int .i64 u] 47)).alloc (.cells #[.bool false, .int .i64 0, .int .i64 0] 47)).alloc (.cells #[.bool false, .int .i64 0, .int .i64 0] 47) = X at HX ⊢
  refine (l12Find_any X _ M (by rw [← HMN.out] at HM ⊢; exact HM.out.later HX.out.1) p).mono ?_
  rintro e y ⟨i, rfl, hi, hb⟩
  have HY : Hid (OutK x0 a l u y noSp) := HX.out.later hb
  clear hb HX
  rcases hi with ⟨rfl, hno⟩ | ⟨k, rfl, hkl', hkp, hkn⟩
  · have HNO : Hid (OV = noSp) := by show _ = _; rw [← HOV.out]; exact outN_none (by rw [← HMN.out]; exact hno)
    clear hno HOV
    obtain ⟨KB, _, K1, K2⟩ := HY.out
    have a0 := K2.c 0 _ rfl
    have a1 := K2.c 1 _ rfl
    have a2 := K2.c 2 _ rfl
    have c0 := K1.c 0 _ rfl
    have c1 := K1.c 1 _ rfl
    have c2 := K1.c 2 _ rfl
    have f0 := K1.fz 0
    have f1 := K1.fz 1
    have f2 := K1.fz 2
    have l1 := K1.lt
    have l2 := K2.lt
    clear K1 K2 HY
    have HBB : Hid (Below x0.heap.size x0 y) := KB
    clear KB
    go_wp2_with fail
    refine bodyPost_ret (v := .agg #[.bool false, .int .i64 0, .int .i64 0]) (by simp [results, Tryz.results42, go_sem, noSp, a0, a1, a2, c0, c1, c2]) rfl ⟨by rw [HNO.out]; rfl, ?_⟩
    exact ((HBB.out.setCell (by simp) _).setCell (by simp) _).setCell (by simp) _
  · rw [HMN.out] at hkl'
    have HO : Hid (OV = joinN (M.getD k sm0).R K K.length) := by show _ = _; rw [← HOV.out]; exact outN_at hkl' hkp fun i h1 h2 => by have := HA.out k i h1 (by rw [HMN.out]; exact h2); omega
    have hki : (k : Int) < (mn : Int) := by omega
    have hkf : decide ((k : Int) < 0) = false := decide_eq_false (by omega)
    obtain ⟨g, o, rfl, hgx, hS⟩ := SmsAt.sum (p := ps) (cap := cs) (M := M) (j := k) (by have := HM.out; rw [HMN.out]; exact this) (by rw [HMN.out]; exact hkl')
    obtain ⟨_, ⟨uR, q1, hR⟩⟩ := hS
    obtain ⟨pR, cR, rfl, _⟩ := hR.shape
    have HR3 := H3.out k hkl'
    have HQ1 : Hid (x0.cell? ⟨g, o + k * 2 + 1, none⟩ = some (.slice pR 3 cR)) := by rw [HR3] at q1; exact q1
    have HRW : Hid (RowsAt x0 (.slice pR (M.getD k sm0).R.length cR) (M.getD k sm0).R) := hR
    have HR3H : Hid ((M.getD k sm0).R.length = 3) := HR3
    clear hR q1 hkp hkn HOV HR3
    generalize (M.getD k sm0).R = R at *
    have KB := HY.out.2.1
    have b0 := KB.c 0 _ rfl
    have b1 := KB.c 1 _ rfl
    have b2 := KB.c 2 _ rfl
    have bl := KB.lt
    have hys : x0.heap.size + 2 < y.heap.size := HY.out.2.2.2.lt
    clear KB
    go_wp2_with fail
    clear b0 b1 b2 bl
    refine (HKS.out y).mono ?_
    rintro e y2 ⟨vK, rfl, hown, hb⟩
    obtain ⟨pK, cK, rfl, _, hlK⟩ := hown.look
    have HY2 : Hid (OutK x0 a l u y2 noSp) := HY.out.later hb
    have HLK : Hid (∀ j, j < K.length → ∃ gK, pK = some ⟨gK, 0, none⟩ ∧ x0.heap.size + 2 < gK ∧ gK < y2.heap.size ∧ y2.cell? ⟨gK, j, none⟩ = some (.int .i64 (K.getD j 0))) := fun j hj => by
      rcases hlK with h0 | ⟨gK, e, hBg, hg, hc⟩
      · omega
      · exact ⟨gK, e, by omega, hg, (hc j hj).1⟩
    clear hown hb hlK HY HKS
    generalize hkn : K.length = kn at *
    have HKN : Hid (K.length = kn) := hkn
    clear hkn
    have hkni : (kn : Int) ≤ 3 := by omega
    go_wp2_with fail
    go_loopw [10] (fun i z => ∃ j : Nat, j ≤ kn ∧ i = .int .i64 j ∧ Hid (OutK x0 a l u z (joinN R K j) ∧ y2.heap.size ≤ z.heap.size ∧ (∀ g i, g ≠ x0.heap.size + 2 → g < y2.heap.size → z.cell? ⟨g, i, none⟩ = y2.cell? ⟨g, i, none⟩))) (fun i _ => kn - (RowKit.intOf i).toNat)
    case atStart => exact ⟨0, by omega, rfl, HY2.out, Nat.le_refl _, fun _ _ _ _ => rfl⟩
    case round =>
      obtain ⟨jq, hj, rfl, HI⟩ := hrel
      by_cases hj3 : jq < kn
      · have hji : (jq : Int) < (kn : Int) := by omega
        obtain ⟨gK, rfl, hgK2, hgK, hcK⟩ := HLK.out jq hj3
        have hkd := HKG.out jq hj3
        have HJN : Hid (joinN R K (jq + 1) = spJ (joinN R K jq) (R.getD (K.getD jq 0).toNat rw0).o) := rfl
        obtain ⟨kd, hkd2⟩ : ∃ kd : Nat, K.getD jq 0 = kd := ⟨(K.getD jq 0).toNat, by omega⟩
        rw [hkd2] at hcK hkd HJN
        have HCK : Hid (y2.cell? ⟨gK, jq, none⟩ = some (.int .i64 kd)) := hcK
        have hkd3 : kd < 3 := by omega
        have hkdi : (kd : Int) < 3 := by omega
        obtain ⟨gR, oR, rfl, hgR, hrw⟩ := RowsAt.row (p := pR) (cap := cR) (R := R) (j := kd) (HRW.out) (by rw [HR3H.out]; exact hkd3)
        obtain ⟨r0, r1, r2, _, _⟩ := hrw
        rw [Int.toNat_natCast] at HJN
        have HQ : Hid (x0.cell? ⟨gR, oR + kd * 5, none⟩ = some (.bool (R.getD kd rw0).o.1) ∧ x0.cell? ⟨gR, oR + kd * 5 + 1, none⟩ = some (.int .i64 (R.getD kd rw0).o.2.1) ∧ x0.cell? ⟨gR, oR + kd * 5 + 2, none⟩ = some (.int .i64 (R.getD kd rw0).o.2.2)) := ⟨r0, r1, r2⟩
        clear hcK hkd hkd2 r0 r1 r2
        generalize (R.getD kd rw0).o = ro at HQ HJN
        generalize joinN R K jq = jo at HI HJN
        have HCJ : Hid (∀ z : World, Calls Tryz.prog 66 #[.agg #[.bool jo.1, .int .i64 jo.2.1, .int .i64 jo.2.2], .agg #[.bool ro.1, .int .i64 ro.2.1, .int .i64 ro.2.2]] z fun e y => e = .returned (.agg #[.bool (spJ jo ro).1, .int .i64 (spJ jo ro).2.1, .int .i64 (spJ jo ro).2.2]) ∧ Below z.heap.size z y) := fun z => join_spec jo.1 jo.2.1 jo.2.2 ro.1 ro.2.1 ro.2.2 z
        generalize spJ jo ro = sj at HCJ HJN
        go_wp2_with fail
        refine wp_region_store (by kernel_rfl) (by kernel_rfl) (by kernel_rfl) (by kernel_rfl) 14 (by kernel_rfl) (by kernel_rfl) _ rfl (fun j => [(fun v _ => v = .agg #[.bool jo.1, .int .i64 jo.2.1, .int .i64 jo.2.2]), (fun v _ => v = .slice (some ⟨g, o, none⟩) mn cs), (fun v _ => v = .int .i64 ↑k), (fun v _ => v = .pointer (some ⟨g, o + k * 2, none⟩)), (fun v _ => v = .pointer (some ⟨g, o + k * 2 + 1, none⟩)), (fun v _ => v = .slice (some ⟨gR, oR, none⟩) 3 cR), (fun v _ => v = .slice (some ⟨gK, 0, none⟩) kn cK), (fun v _ => v = .int .i64 ↑jq), (fun v _ => v = .pointer (some ⟨gK, jq, none⟩)), (fun v _ => v = .int .i64 ↑kd), (fun v _ => v = .pointer (some ⟨gR, oR + kd * 5, none⟩)), (fun v _ => v = .pointer (some ⟨gR, oR + kd * 5, none⟩)), (fun v _ => v = .agg #[.bool ro.1, .int .i64 ro.2.1, .int .i64 ro.2.2]), (fun v _ => v = .agg #[.bool sj.1, .int .i64 sj.2.1, .int .i64 sj.2.2])].getD j (fun _ _ => True)) ?stable wr ((Below.refl _ _).drew) ?step (fun V => ⟨List.toArray ((.slice (some ⟨g, o, none⟩) mn cs) :: (.int .i64 p) :: (.agg #[.bool a, .int .i64 l, .int .i64 u]) :: (undef) :: (undef) :: (.pointer (some ⟨x0.heap.size, 0, none⟩)) :: (.pointer (some ⟨x0.heap.size + 1, 0, none⟩)) :: (.pointer (some ⟨x0.heap.size + 1 + 1, 0, none⟩)) :: (.int .i64 ↑k) :: (.slice (some ⟨gK, 0, none⟩) kn cK) :: (.int .i64 ↑jq) :: (.agg #[.bool false, .int .i64 0, .int .i64 0]) :: (.slice (some ⟨g, o, none⟩) mn cs) :: (.int .i64 p) :: (.int .i64 ↑k) :: (.int .i64 ↑k) :: (.bool false) :: (undef) :: (.agg #[.bool a, .int .i64 l, .int .i64 u]) :: (.slice (some ⟨gK, 0, none⟩) kn cK) :: (.int .i64 ↑jq) :: (.slice (some ⟨gK, 0, none⟩) kn cK) :: (.int .i64 ↑kn) :: (.bool true) :: (u24) :: (u25) :: (V 0) :: (V 1) :: (V 2) :: (V 3) :: (V 4) :: (V 5) :: (V 6) :: (V 7) :: (V 8) :: (V 9) :: (V 10) :: (V 11) :: (V 12) :: (V 13) :: (undef) :: []), []⟩) (fun V => by kernel_rfl) ?last
        case stable =>
          intro i v x y ht hb
          rcases i with _ | i
          · exact ht
          rcases i with _ | i
          · exact ht
          rcases i with _ | i
          · exact ht
          rcases i with _ | i
          · exact ht
          rcases i with _ | i
          · exact ht
          rcases i with _ | i
          · exact ht
          rcases i with _ | i
          · exact ht
          rcases i with _ | i
          · exact ht
          rcases i with _ | i
          · exact ht
          rcases i with _ | i
          · exact ht
          rcases i with _ | i
          · exact ht
          rcases i with _ | i
          · exact ht
          rcases i with _ | i
          · exact ht
          rcases i with _ | i
          · exact ht
          exact trivial
        case step =>
          intro i o hin ho ρ y x hBx hdep hout
          rcases i with _ | i
          · obtain rfl := Option.some.inj ho
            have o7 : ρ (.tmp 7) = .pointer (some ⟨x0.heap.size + 1 + 1, 0, none⟩) := hout (.tmp 7) rfl
            clear hdep hout
            refine .inl ⟨rfl, ?_⟩
            have kb := HI.out.1.2.2.2.later hBx
            have c0 := kb.c 0 _ rfl
            have c1 := kb.c 1 _ rfl
            have c2 := kb.c 2 _ rfl
            have cl0 := kb.lt
            show GivesP _ _ _ (fun v _ => v = .agg #[.bool jo.1, .int .i64 jo.2.1, .int .i64 jo.2.2]) _
            refine GivesP.val (.agg #[.bool jo.1, .int .i64 jo.2.1, .int .i64 jo.2.2]) rfl ?_
            go_simp
          rcases i with _ | i
          · obtain rfl := Option.some.inj ho
            have o0 : ρ (.tmp 0) = .slice (some ⟨g, o, none⟩) mn cs := hout (.tmp 0) rfl
            clear hdep hout
            refine .inl ⟨rfl, ?_⟩
            show GivesP _ _ _ (fun v _ => v = .slice (some ⟨g, o, none⟩) mn cs) _
            refine GivesP.val (.slice (some ⟨g, o, none⟩) mn cs) rfl ?_
            go_simp
          rcases i with _ | i
          · obtain rfl := Option.some.inj ho
            have o8 : ρ (.tmp 8) = .int .i64 ↑k := hout (.tmp 8) rfl
            clear hdep hout
            refine .inl ⟨rfl, ?_⟩
            show GivesP _ _ _ (fun v _ => v = .int .i64 ↑k) _
            refine GivesP.val (.int .i64 ↑k) rfl ?_
            go_simp
          rcases i with _ | i
          · obtain rfl := Option.some.inj ho
            have e1 : ρ (.tmp 27) = .slice (some ⟨g, o, none⟩) mn cs := (hdep ⟨1, .data⟩ (by simp) rfl 27 rfl).1
            have e2 : ρ (.tmp 28) = .int .i64 ↑k := (hdep ⟨2, .data⟩ (by simp) rfl 28 rfl).1
            clear hdep hout
            refine .inl ⟨rfl, ?_⟩
            show GivesP _ _ _ (fun v _ => v = .pointer (some ⟨g, o + k * 2, none⟩)) _
            refine GivesP.val (.pointer (some ⟨g, o + k * 2, none⟩)) rfl ?_
            go_simp
          rcases i with _ | i
          · obtain rfl := Option.some.inj ho
            have e3 : ρ (.tmp 29) = .pointer (some ⟨g, o + k * 2, none⟩) := (hdep ⟨3, .data⟩ (by simp) rfl 29 rfl).1
            clear hdep hout
            refine .inl ⟨rfl, ?_⟩
            show GivesP _ _ _ (fun v _ => v = .pointer (some ⟨g, o + k * 2 + 1, none⟩)) _
            refine GivesP.val (.pointer (some ⟨g, o + k * 2 + 1, none⟩)) rfl ?_
            go_simp
          rcases i with _ | i
          · obtain rfl := Option.some.inj ho
            have e4 : ρ (.tmp 30) = .pointer (some ⟨g, o + k * 2 + 1, none⟩) := (hdep ⟨4, .data⟩ (by simp) rfl 30 rfl).1
            clear hdep hout
            refine .inl ⟨rfl, ?_⟩
            have hbz := HI.out.1.1.trans (hBx.mono HI.out.1.1.size)
            have m0 := (hbz.cell (p := ⟨g, o + k * 2 + 1, none⟩) hgx).trans HQ1.out
            show GivesP _ _ _ (fun v _ => v = .slice (some ⟨gR, oR, none⟩) 3 cR) _
            refine GivesP.val (.slice (some ⟨gR, oR, none⟩) 3 cR) rfl ?_
            go_simp
          rcases i with _ | i
          · obtain rfl := Option.some.inj ho
            have o9 : ρ (.tmp 9) = .slice (some ⟨gK, 0, none⟩) kn cK := hout (.tmp 9) rfl
            clear hdep hout
            refine .inl ⟨rfl, ?_⟩
            show GivesP _ _ _ (fun v _ => v = .slice (some ⟨gK, 0, none⟩) kn cK) _
            refine GivesP.val (.slice (some ⟨gK, 0, none⟩) kn cK) rfl ?_
            go_simp
          rcases i with _ | i
          · obtain rfl := Option.some.inj ho
            have o10 : ρ (.tmp 10) = .int .i64 ↑jq := hout (.tmp 10) rfl
            clear hdep hout
            refine .inl ⟨rfl, ?_⟩
            show GivesP _ _ _ (fun v _ => v = .int .i64 ↑jq) _
            refine GivesP.val (.int .i64 ↑jq) rfl ?_
            go_simp
          rcases i with _ | i
          · obtain rfl := Option.some.inj ho
            have e6 : ρ (.tmp 32) = .slice (some ⟨gK, 0, none⟩) kn cK := (hdep ⟨6, .data⟩ (by simp) rfl 32 rfl).1
            have e7 : ρ (.tmp 33) = .int .i64 ↑jq := (hdep ⟨7, .data⟩ (by simp) rfl 33 rfl).1
            clear hdep hout
            refine .inl ⟨rfl, ?_⟩
            show GivesP _ _ _ (fun v _ => v = .pointer (some ⟨gK, jq, none⟩)) _
            refine GivesP.val (.pointer (some ⟨gK, jq, none⟩)) rfl ?_
            go_simp
          rcases i with _ | i
          · obtain rfl := Option.some.inj ho
            have e8 : ρ (.tmp 34) = .pointer (some ⟨gK, jq, none⟩) := (hdep ⟨8, .data⟩ (by simp) rfl 34 rfl).1
            clear hdep hout
            refine .inl ⟨rfl, ?_⟩
            have ck := (hBx.cell (p := ⟨gK, jq, none⟩) (by have := HI.out.2.1; show gK < _; omega)).trans ((HI.out.2.2 gK jq (by omega) hgK).trans HCK.out)
            show GivesP _ _ _ (fun v _ => v = .int .i64 ↑kd) _
            refine GivesP.val (.int .i64 ↑kd) rfl ?_
            go_simp
          rcases i with _ | i
          · obtain rfl := Option.some.inj ho
            have e5 : ρ (.tmp 31) = .slice (some ⟨gR, oR, none⟩) 3 cR := (hdep ⟨5, .data⟩ (by simp) rfl 31 rfl).1
            have e9 : ρ (.tmp 35) = .int .i64 ↑kd := (hdep ⟨9, .data⟩ (by simp) rfl 35 rfl).1
            clear hdep hout
            refine .inl ⟨rfl, ?_⟩
            show GivesP _ _ _ (fun v _ => v = .pointer (some ⟨gR, oR + kd * 5, none⟩)) _
            refine GivesP.val (.pointer (some ⟨gR, oR + kd * 5, none⟩)) rfl ?_
            go_simp
          rcases i with _ | i
          · obtain rfl := Option.some.inj ho
            have e10 : ρ (.tmp 36) = .pointer (some ⟨gR, oR + kd * 5, none⟩) := (hdep ⟨10, .data⟩ (by simp) rfl 36 rfl).1
            clear hdep hout
            refine .inl ⟨rfl, ?_⟩
            show GivesP _ _ _ (fun v _ => v = .pointer (some ⟨gR, oR + kd * 5, none⟩)) _
            refine GivesP.val (.pointer (some ⟨gR, oR + kd * 5, none⟩)) rfl ?_
            go_simp
          rcases i with _ | i
          · obtain rfl := Option.some.inj ho
            have e11 : ρ (.tmp 37) = .pointer (some ⟨gR, oR + kd * 5, none⟩) := (hdep ⟨11, .data⟩ (by simp) rfl 37 rfl).1
            clear hdep hout
            refine .inl ⟨rfl, ?_⟩
            have hbz := HI.out.1.1.trans (hBx.mono HI.out.1.1.size)
            have m0 := (hbz.cell (p := ⟨gR, oR + kd * 5, none⟩) hgR).trans HQ.out.1
            have m1 := (hbz.cell (p := ⟨gR, oR + kd * 5 + 1, none⟩) hgR).trans HQ.out.2.1
            have m2 := (hbz.cell (p := ⟨gR, oR + kd * 5 + 2, none⟩) hgR).trans HQ.out.2.2
            show GivesP _ _ _ (fun v _ => v = .agg #[.bool ro.1, .int .i64 ro.2.1, .int .i64 ro.2.2]) _
            refine GivesP.val (.agg #[.bool ro.1, .int .i64 ro.2.1, .int .i64 ro.2.2]) rfl ?_
            go_simp
          rcases i with _ | i
          · obtain rfl := Option.some.inj ho
            have e0 : ρ (.tmp 26) = .agg #[.bool jo.1, .int .i64 jo.2.1, .int .i64 jo.2.2] := (hdep ⟨0, .data⟩ (by simp) rfl 26 rfl).1
            have e12 : ρ (.tmp 38) = .agg #[.bool ro.1, .int .i64 ro.2.1, .int .i64 ro.2.2] := (hdep ⟨12, .data⟩ (by simp) rfl 38 rfl).1
            have ofn : ∀ f, ρ (.func f) = .func (.func f) #[] #[] := fun f => hout (.func f) rfl
            clear hdep hout
            refine .inl ⟨rfl, ?_⟩
            show GivesP _ _ _ (fun v _ => v = .agg #[.bool sj.1, .int .i64 sj.2.1, .int .i64 sj.2.2]) _
            refine GivesP.call ((HCJ.out x).mono fun e w9 h9 => ⟨_, h9.1, rfl, h9.2⟩) ?_
            go_simp
          exact absurd hin (by omega)
        case last =>
          intro V x hBx hV
          have e13 : V 13 = .agg #[.bool sj.1, .int .i64 sj.2.1, .int .i64 sj.2.2] := hV 13 (by omega)
          clear hV
          have HX9 := HI.out.1.later hBx
          have hsz := hBx.size
          have HC9 : Hid (∀ g i, g ≠ x0.heap.size + 2 → g < y2.heap.size → x.cell? ⟨g, i, none⟩ = y2.cell? ⟨g, i, none⟩) := fun g i h1 h2 => (hBx.cell (p := ⟨g, i, none⟩) (by have := HI.out.2.1; show g < _; omega)).trans (HI.out.2.2 g i h1 h2)
          have HP9 : Hid (OutK x0 a l u (set3 x (x0.heap.size + 2) 0 (.bool sj.1) (.int .i64 sj.2.1) (.int .i64 sj.2.2)) sj ∧ y2.heap.size ≤ (set3 x (x0.heap.size + 2) 0 (.bool sj.1) (.int .i64 sj.2.1) (.int .i64 sj.2.2)).heap.size ∧ (∀ g i, g ≠ x0.heap.size + 2 → g < y2.heap.size → (set3 x (x0.heap.size + 2) 0 (.bool sj.1) (.int .i64 sj.2.1) (.int .i64 sj.2.2)).cell? ⟨g, i, none⟩ = y2.cell? ⟨g, i, none⟩)) := ⟨HX9.put sj, by rw [set3_size]; have := HI.out.2.1; omega, fun g i h1 h2 => (set3_miss _ _ _ _ _ _ _ _ (.inl h1)).trans (HC9.out g i h1 h2)⟩
          have rl := HX9.2.2.2.lt
          have z0 := HX9.2.2.2.fz 0
          have z1 := HX9.2.2.2.fz 1
          have z2 := HX9.2.2.2.fz 2
          have k0 := HX9.2.2.2.c 0 _ rfl
          have k1 := HX9.2.2.2.c 1 _ rfl
          have k2 := HX9.2.2.2.c 2 _ rfl
          clear HX9 HC9 HI hBx
          refine ⟨set3 x (x0.heap.size + 2) 0 (.bool sj.1) (.int .i64 sj.2.1) (.int .i64 sj.2.2), ?_, ?_⟩
          · unfold set3
            go_simp
          · generalize set3 x (x0.heap.size + 2) 0 (.bool sj.1) (.int .i64 sj.2.1) (.int .i64 sj.2.2) = x9 at HP9 ⊢
            clear rl z0 z1 z2 k0 k1 k2
            go_wp2_with fail
            go_roundw
            case rel => exact ⟨jq + 1, by omega, by go_num, by rw [HJN.out]; exact HP9.out.1, HP9.out.2.1, HP9.out.2.2⟩
            case measure => simp [RowKit.intOf]; omega
      · obtain rfl : jq = kn := by omega
        have hji : ¬ (jq : Int) < (jq : Int) := by omega
        rw [← HO.out] at HI
        obtain ⟨KB, _, K1, K2⟩ := HI.out.1
        have a0 := K2.c 0 _ rfl
        have a1 := K2.c 1 _ rfl
        have a2 := K2.c 2 _ rfl
        have c0 := K1.c 0 _ rfl
        have c1 := K1.c 1 _ rfl
        have c2 := K1.c 2 _ rfl
        have f0 := K1.fz 0
        have f1 := K1.fz 1
        have f2 := K1.fz 2
        have l1 := K1.lt
        have l2 := K2.lt
        clear K1 K2 HI HLK
        have HBB : Hid (Below x0.heap.size x0 wr) := KB
        clear KB
        go_wp2_with fail
        refine bodyPost_ret (v := .agg #[.bool OV.1, .int .i64 OV.2.1, .int .i64 OV.2.2]) (by simp [results, Tryz.results42, go_sem, c0, c1, c2]) rfl ⟨rfl, ?_⟩
        exact ((HBB.out.setCell (by simp) _).setCell (by simp) _).setCell (by simp) _

end Go.Proofs.YtlkebkajdlgebaaGreat
