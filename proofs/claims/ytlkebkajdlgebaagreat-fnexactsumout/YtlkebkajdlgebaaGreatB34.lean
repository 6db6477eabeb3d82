import Derived.Test.YtlkebkajdlgebaaGreatB31
import Derived.Test.YtlkebkajdlgebaaGreatB33
import Derived.Test.YtlkebkajdlgebaaGreatB26
import Derived.Test.YtlkebkajdlgebaaGreatB20
import Derived.Test.YtlkebkajdlgebaaGreatB6
/-
  What a call may give back: the contracts of SumOut, the program's and the model's.
-/
namespace Go.Proofs.YtlkebkajdlgebaaGreat
open Go.RowKit
set_option linter.unusedVariables false
set_option linter.unusedSimpArgs false

set_option maxRecDepth 100000 in
set_option maxHeartbeats 4000000 in
theorem sumOut_impl (x0 : World) (B : Nat) (v : Value) (P : List (List I4)) (h : ProgAt x0 B v P) (M : List Sm) (w : Value) (hs : SmsAt x0 w M) (p : Int) (a : Bool) (l u : Int) :
    Calls Tryz.prog 22 #[v, w, .int .i64 p, .agg #[.bool a, .int .i64 l, .int .i64 u]] x0 fun e y => RetSp (sumOutF P (callsQ P) M p a l u) e ∧ Below x0.heap.size x0 y := by
  obtain ⟨pp, cp, rfl, _⟩ := h.shape
  obtain ⟨ps, cs, rfl, _⟩ := hs.shape
  have HP : Hid (ProgAt x0 B (.slice pp P.length cp) P) := h
  have HM : Hid (SmsAt x0 (.slice ps M.length cs) M) := hs
  obtain ⟨OV, hOV⟩ : ∃ OV, sumOutF P (callsQ P) M p a l u = OV := ⟨_, rfl⟩
  rw [hOV]
  have HO : Hid ((if (progOkF P && sumsF P (callsQ P) M) = true then outN M p (KL a l u 3) M.length else noSp) = OV) := hOV
  clear h hs hOV
  go_enter Tryz.func22, Tryz.ntmps22
  go_wp2_with fail
  have HX : Hid (Below x0.heap.size x0 ((x0.alloc (.cells #[.bool a, .int .i64 l, .int .i64 u] 47)).alloc (.cells #[.bool false, .int .i64 0, .int .i64 0] 47)) ∧ BxN ((x0.alloc (.cells #[.bool a, .int .i64 l, .int .i64 u] 47)).alloc (.cells #[.bool false, .int .i64 0, .int .i64 0] 47)) x0.heap.size [.bool a, .int .i64 l, .int .i64 u] ∧ BxN ((x0.alloc (.cells #[.bool a, .int .i64 l, .int .i64 u] 47)).alloc (.cells #[.bool false, .int .i64 0, .int .i64 0] 47)) (x0.heap.size + 1) [.bool false, .int .i64 0, .int .i64 0]) := by
    have h1 : BxN (x0.alloc (.cells #[.bool a, .int .i64 l, .int .i64 u] 47)) x0.heap.size [.bool a, .int .i64 l, .int .i64 u] := BxN.new x0 [_, _, _] _
    have h2 : BxN ((x0.alloc (.cells #[.bool a, .int .i64 l, .int .i64 u] 47)).alloc (.cells #[.bool false, .int .i64 0, .int .i64 0] 47)) (x0.heap.size + 1) [.bool false, .int .i64 0, .int .i64 0] := by simpa using BxN.new (x0.alloc (.cells #[.bool a, .int .i64 l, .int .i64 u] 47)) [.bool false, .int .i64 0, .int .i64 0] 47
    exact ⟨((Below.refl _ _).alloc (Nat.le_refl _) _).alloc (by simp) _, h1.later ((Below.refl _ _).alloc (Nat.le_refl _) _), h2⟩
  generalize (x0.alloc (.cells #[.bool a, .int .i64 l, .int .i64 u] 47)).alloc (.cells #[.bool false, .int .i64 0, .int .i64 0] 47) = X at HX ⊢
  refine (sumsOk_impl X B _ P (HP.out.later HX.out.1) M _ (HM.out.later HX.out.1) (callsQ P) (fun hok k hk => callsOf_is B P hok k hk)).mono ?_
  rintro e y ⟨rfl, hb⟩
  have HY : Hid (Below x0.heap.size x0 y ∧ BxN y x0.heap.size [.bool a, .int .i64 l, .int .i64 u] ∧ BxN y (x0.heap.size + 1) [.bool false, .int .i64 0, .int .i64 0]) := ⟨HX.out.1.trans (hb.mono HX.out.1.size), HX.out.2.1.later hb, HX.out.2.2.later hb⟩
  clear hb HX
  cases hok : (progOkF P && sumsF P (callsQ P) M)
  · have HNO : Hid (OV = noSp) := by show _ = _; rw [← HO.out, hok]; rfl
    clear HO hok
    have K1 := HY.out.2.2
    have c0 := K1.c 0 _ rfl
    have c1 := K1.c 1 _ rfl
    have c2 := K1.c 2 _ rfl
    have f0 := K1.fz 0
    have f1 := K1.fz 1
    have f2 := K1.fz 2
    have l1 := K1.lt
    have HBB : Hid (Below x0.heap.size x0 y) := HY.out.1
    clear K1 HY
    go_wp2_with fail
    refine bodyPost_ret (v := .agg #[.bool false, .int .i64 0, .int .i64 0]) (by simp [results, Tryz.results22, go_sem, c0, c1, c2]) rfl ⟨by rw [HNO.out]; rfl, ?_⟩
    exact ((HBB.out.setCell (by simp) _).setCell (by simp) _).setCell (by simp) _
  · have HV : Hid (outN M p (KL a l u 3) M.length = OV) := by have := HO.out; rw [hok] at this; exact this
    have hpr := sumsF_parts (P := P) (Q := callsQ P) (M := M) (by rw [Bool.and_eq_true] at hok; exact hok.2)
    clear HO hok
    have K0 := HY.out.2.1
    have b0 := K0.c 0 _ rfl
    have b1 := K0.c 1 _ rfl
    have b2 := K0.c 2 _ rfl
    have bl := K0.lt
    clear K0
    go_wp2_with fail
    clear b0 b1 b2 bl
    refine (outOf_any y _ M (HM.out.later HY.out.1) hpr.1 hpr.2 p a l u).mono ?_
    rintro e z ⟨hr, hb⟩
    rw [HV.out] at hr
    obtain rfl := hr
    have K1 := HY.out.2.2.later hb
    have c0 := K1.c 0 _ rfl
    have c1 := K1.c 1 _ rfl
    have c2 := K1.c 2 _ rfl
    have f0 := K1.fz 0
    have f1 := K1.fz 1
    have f2 := K1.fz 2
    have l1 := K1.lt
    have HBB : Hid (Below x0.heap.size x0 z) := HY.out.1.trans (hb.mono HY.out.1.size)
    clear K1 HY hb hpr HV
    go_wp2_with fail
    refine bodyPost_ret (v := .agg #[.bool OV.1, .int .i64 OV.2.1, .int .i64 OV.2.2]) (by simp [results, Tryz.results22, go_sem, c0, c1, c2]) rfl ⟨rfl, ?_⟩
    exact ((HBB.out.setCell (by simp) _).setCell (by simp) _).setCell (by simp) _

set_option maxRecDepth 100000 in
set_option maxHeartbeats 4000000 in
theorem sumOut_spec (x0 : World) (B : Nat) (v : Value) (P : List (List I4)) (h : ProgAt x0 B v P) (M : List Sm) (w : Value) (hs : SmsAt x0 w M) (p : Int) (a : Bool) (l u : Int) :
    Calls Tryz.prog 20 #[v, w, .int .i64 p, .agg #[.bool a, .int .i64 l, .int .i64 u]] x0 fun e y => RetSp (sumOutF P (callsQ P) M p a l u) e ∧ Below x0.heap.size x0 y := by
  obtain ⟨pp, cp, rfl, _⟩ := h.shape
  obtain ⟨ps, cs, rfl, _⟩ := hs.shape
  have HP : Hid (ProgAt x0 B (.slice pp P.length cp) P) := h
  have HM : Hid (SmsAt x0 (.slice ps M.length cs) M) := hs
  obtain ⟨OV, hOV⟩ : ∃ OV, sumOutF P (callsQ P) M p a l u = OV := ⟨_, rfl⟩
  rw [hOV]
  have HO : Hid ((if (progOkF P && sumsF P (callsQ P) M) = true then outN M p (KL a l u 3) M.length else noSp) = OV) := hOV
  clear h hs hOV
  go_enter Tryz.func20, Tryz.ntmps20
  go_wp2_with fail
  have HX : Hid (Below x0.heap.size x0 ((x0.alloc (.cells #[.bool a, .int .i64 l, .int .i64 u] 47)).alloc (.cells #[.bool false, .int .i64 0, .int .i64 0] 47)) ∧ BxN ((x0.alloc (.cells #[.bool a, .int .i64 l, .int .i64 u] 47)).alloc (.cells #[.bool false, .int .i64 0, .int .i64 0] 47)) x0.heap.size [.bool a, .int .i64 l, .int .i64 u] ∧ BxN ((x0.alloc (.cells #[.bool a, .int .i64 l, .int .i64 u] 47)).alloc (.cells #[.bool false, .int .i64 0, .int .i64 0] 47)) (x0.heap.size + 1) [.bool false, .int .i64 0, .int .i64 0]) := by
    have h1 : BxN (x0.alloc (.cells #[.bool a, .int .i64 l, .int .i64 u] 47)) x0.heap.size [.bool a, .int .i64 l, .int .i64 u] := BxN.new x0 [_, _, _] _
    have h2 : BxN ((x0.alloc (.cells #[.bool a, .int .i64 l, .int .i64 u] 47)).alloc (.cells #[.bool false, .int .i64 0, .int .i64 0] 47)) (x0.heap.size + 1) [.bool false, .int .i64 0, .int .i64 0] := by simpa using BxN.new (x0.alloc (.cells #[.bool a, .int .i64 l, .int .i64 u] 47)) [.bool false, .int .i64 0, .int .i64 0] 47
    exact ⟨((Below.refl _ _).alloc (Nat.le_refl _) _).alloc (by simp) _, h1.later ((Below.refl _ _).alloc (Nat.le_refl _) _), h2⟩
  generalize (x0.alloc (.cells #[.bool a, .int .i64 l, .int .i64 u] 47)).alloc (.cells #[.bool false, .int .i64 0, .int .i64 0] 47) = X at HX ⊢
  refine (sumsOk_spec X B _ P (HP.out.later HX.out.1) M _ (HM.out.later HX.out.1)).mono ?_
  rintro e y ⟨rfl, hb⟩
  have HY : Hid (Below x0.heap.size x0 y ∧ BxN y x0.heap.size [.bool a, .int .i64 l, .int .i64 u] ∧ BxN y (x0.heap.size + 1) [.bool false, .int .i64 0, .int .i64 0]) := ⟨HX.out.1.trans (hb.mono HX.out.1.size), HX.out.2.1.later hb, HX.out.2.2.later hb⟩
  clear hb HX
  cases hok : (progOkF P && sumsF P (callsQ P) M)
  · have HNO : Hid (OV = noSp) := by show _ = _; rw [← HO.out, hok]; rfl
    clear HO hok
    have K1 := HY.out.2.2
    have c0 := K1.c 0 _ rfl
    have c1 := K1.c 1 _ rfl
    have c2 := K1.c 2 _ rfl
    have f0 := K1.fz 0
    have f1 := K1.fz 1
    have f2 := K1.fz 2
    have l1 := K1.lt
    have HBB : Hid (Below x0.heap.size x0 y) := HY.out.1
    clear K1 HY
    go_wp2_with fail
    refine bodyPost_ret (v := .agg #[.bool false, .int .i64 0, .int .i64 0]) (by simp [results, Tryz.results20, go_sem, c0, c1, c2]) rfl ⟨by rw [HNO.out]; rfl, ?_⟩
    exact ((HBB.out.setCell (by simp) _).setCell (by simp) _).setCell (by simp) _
  · have HV : Hid (outN M p (KL a l u 3) M.length = OV) := by have := HO.out; rw [hok] at this; exact this
    have hpr := sumsF_parts (P := P) (Q := callsQ P) (M := M) (by rw [Bool.and_eq_true] at hok; exact hok.2)
    clear HO hok
    have K0 := HY.out.2.1
    have b0 := K0.c 0 _ rfl
    have b1 := K0.c 1 _ rfl
    have b2 := K0.c 2 _ rfl
    have bl := K0.lt
    clear K0
    go_wp2_with fail
    clear b0 b1 b2 bl
    refine (l12Out_any y _ M (HM.out.later HY.out.1) hpr.1 hpr.2 p a l u).mono ?_
    rintro e z ⟨hr, hb⟩
    rw [HV.out] at hr
    obtain rfl := hr
    have K1 := HY.out.2.2.later hb
    have c0 := K1.c 0 _ rfl
    have c1 := K1.c 1 _ rfl
    have c2 := K1.c 2 _ rfl
    have f0 := K1.fz 0
    have f1 := K1.fz 1
    have f2 := K1.fz 2
    have l1 := K1.lt
    have HBB : Hid (Below x0.heap.size x0 z) := HY.out.1.trans (hb.mono HY.out.1.size)
    clear K1 HY hb hpr HV
    go_wp2_with fail
    refine bodyPost_ret (v := .agg #[.bool OV.1, .int .i64 OV.2.1, .int .i64 OV.2.2]) (by simp [results, Tryz.results20, go_sem, c0, c1, c2]) rfl ⟨rfl, ?_⟩
    exact ((HBB.out.setCell (by simp) _).setCell (by simp) _).setCell (by simp) _

end Go.Proofs.YtlkebkajdlgebaaGreat

/-
  The walk of the exact law of SumOut.
-/
namespace Go.Proofs.YtlkebkajdlgebaaGreat
open Go.RowKit
set_option linter.unusedVariables false
set_option linter.unusedSimpArgs false

theorem ProgAt.lowerW {x : World} {B C : Nat} {v : Value} {P : List (List I4)} (h : ProgAt x B v P) (hc : C ≤ B) : ProgAt x C v P := by
  obtain ⟨p, cap, hv, hm, hq⟩ := h
  refine ⟨p, cap, hv, hm, hq.imp id ?_⟩
  rintro ⟨g, o, hp, hB, hg, hj⟩
  exact ⟨g, o, hp, by omega, hg, fun j h => by obtain ⟨u, hu, hcu⟩ := hj j h; exact ⟨u, hu, hcu.lower hc⟩⟩
/-- a new box of a span that is none -/
def NoB (B : Nat) (v : Value) (x : World) : Prop := ∃ m, v = .pointer (some ⟨m, 0, none⟩) ∧ B ≤ m ∧ BxN x m [.bool false, .int .i64 0, .int .i64 0]
theorem NoB.later {B : Nat} {v : Value} {x y : World} (h : NoB B v x) (hb : Below x.heap.size x y) : NoB B v y := by
  obtain ⟨m, e, hm, hB⟩ := h
  exact ⟨m, e, hm, hB.later hb⟩

set_option maxRecDepth 100000 in
set_option maxHeartbeats 8000000 in
theorem exactSumOut_walk (s0 : Option Addr) (n0 cap0 : Nat) (P : List (List I4)) (s1 : Option Addr) (n1 cap1 : Nat) (M : List Sm) (p : Int) (a : Bool) (l u : Int) (w : World) (hP : ProgAt w 0 (.slice s0 n0 cap0) P) (hM : SmsAt w (.slice s1 n1 cap1) M) (hp : (Lit.int .i64 p).wf = true) (hl : (Lit.int .i64 l).wf = true) (hu : (Lit.int .i64 u).wf = true) :
    Calls Tryz.prog 5 #[.slice s0 n0 cap0, .slice s1 n1 cap1, .int .i64 p, .agg #[.bool a, .int .i64 l, .int .i64 u]] w fun e w' => e = .returned (.bool true) ∧ Below w.heap.size w w' := by
  have HP : Hid (ProgAt w 0 (.slice s0 n0 cap0) P) := hP
  have HM : Hid (SmsAt w (.slice s1 n1 cap1) M) := hM
  have HSP : Hid (∀ (z : World) (v : Value), ProgAt z 0 v P → ∀ s : Value, SmsAt z s M → Calls Tryz.prog 20 #[v, s, .int .i64 p, .agg #[.bool a, .int .i64 l, .int .i64 u]] z fun e y => RetSp (sumOutF P (callsQ P) M p a l u) e ∧ Below z.heap.size z y) := fun z v h s hs => sumOut_spec z 0 v P h M s hs p a l u
  have HIM : Hid (∀ (z : World) (v : Value), ProgAt z 0 v P → ∀ s : Value, SmsAt z s M → Calls Tryz.prog 22 #[v, s, .int .i64 p, .agg #[.bool a, .int .i64 l, .int .i64 u]] z fun e y => RetSp (sumOutF P (callsQ P) M p a l u) e ∧ Below z.heap.size z y) := fun z v h s hs => sumOut_impl z 0 v P h M s hs p a l u
  generalize sumOutF P (callsQ P) M p a l u = OV at HSP HIM
  obtain ⟨oa, ol, ou⟩ := OV
  clear hP hM hp hl hu
  go_enter Tryz.func5, Tryz.ntmps5
  go_wp2_with fail
  have HX : Hid (Below w.heap.size w (w.alloc (.cells #[.bool a, .int .i64 l, .int .i64 u] 46)) ∧ BxN (w.alloc (.cells #[.bool a, .int .i64 l, .int .i64 u] 46)) w.heap.size [.bool a, .int .i64 l, .int .i64 u]) := ⟨(Below.refl _ _).alloc (Nat.le_refl _) _, BxN.new w [_, _, _] _⟩
  generalize w.alloc (.cells #[.bool a, .int .i64 l, .int .i64 u] 46) = X at HX ⊢
  refine (szProcS_any _ 0 _ P (HP.out.later HX.out.1)).mono ?_
  rintro e w1 ⟨r, rfl, hr, hr1, hb1⟩
  have HR0 : Hid (0 ≤ r → P.length ≤ 1048576 ∧ ∀ j, j < P.length → (P.getD j []).length ≤ 1048576) := hr
  have HB1 : Hid (Below w.heap.size w w1 ∧ BxN w1 w.heap.size [.bool a, .int .i64 l, .int .i64 u]) := ⟨HX.out.1.trans (hb1.mono HX.out.1.size), HX.out.2.later hb1⟩
  clear hr hb1 HX
  by_cases hneg : r < 0
  · go_wp2_with fail
    go_ret
    exact ⟨rfl, HB1.out.1⟩
  have HN : Hid (P.length ≤ 1048576 ∧ ∀ j, j < P.length → (P.getD j []).length ≤ 1048576) := HR0.out (by omega)
  clear HR0
  go_wp2_with fail
  refine (szSumS_any _ _ M (HM.out.later HB1.out.1) r (by omega) hr1).mono ?_
  rintro e w2 ⟨r2, rfl, hr2, _, hb2⟩
  have HR2 : Hid (0 ≤ r2 → smsSz M) := hr2
  have HB2 : Hid (Below w.heap.size w w2 ∧ BxN w2 w.heap.size [.bool a, .int .i64 l, .int .i64 u]) := ⟨HB1.out.1.trans (hb2.mono HB1.out.1.size), HB1.out.2.later hb2⟩
  clear hr2 hb2 HB1 hr1 hneg
  by_cases hneg2 : r2 < 0
  · go_wp2_with fail
    go_ret
    exact ⟨rfl, HB2.out.1⟩
  have HSZ : Hid (smsSz M) := HR2.out (by omega)
  clear HR2
  have hw2 : w.heap.size < w2.heap.size := HB2.out.2.lt
  go_wp2_with fail
  refine wp_region_store (by kernel_rfl) (by kernel_rfl) (by kernel_rfl) (by kernel_rfl) 9 (by kernel_rfl) (by kernel_rfl) _ rfl (fun j => [(fun v _ => v = .slice s0 n0 cap0), (fun v x => ProgAt x 0 v P), (fun v _ => v = .slice s1 n1 cap1), (fun v x => SmsAt x v M), (fun v _ => v = .int .i64 p), (fun v _ => v = .agg #[.bool a, .int .i64 l, .int .i64 u]), (fun v _ => v = .agg #[.bool a, .int .i64 l, .int .i64 u]), (fun v _ => v = .agg #[.bool oa, .int .i64 ol, .int .i64 ou]), (fun v x => NoB w2.heap.size v x)].getD j (fun _ _ => True)) ?stable w2 ((Below.refl _ _).drew) ?step (fun V => ⟨List.toArray ((.slice s0 n0 cap0) :: (.slice s1 n1 cap1) :: (.int .i64 p) :: (.agg #[.bool a, .int .i64 l, .int .i64 u]) :: (undef) :: (undef) :: (undef) :: (.pointer (some ⟨w.heap.size, 0, none⟩)) :: (.bool false) :: (.int .i64 r2) :: (V 8) :: (undef) :: (undef) :: (undef) :: (.slice s0 n0 cap0) :: (.int .i64 1048576) :: (.int .i64 r) :: (.int .i64 r) :: (.bool (decide (r < 0))) :: (.slice s1 n1 cap1) :: (.int .i64 r) :: (.int .i64 r2) :: (.int .i64 r2) :: (.bool (decide (r2 < 0))) :: (V 0) :: (V 1) :: (V 2) :: (V 3) :: (V 4) :: (V 5) :: (V 6) :: (V 7) :: (undef) :: (undef) :: (undef) :: (undef) :: (undef) :: (undef) :: (undef) :: (undef) :: (undef) :: (undef) :: (undef) :: (undef) :: (undef) :: (undef) :: (undef) :: (undef) :: (undef) :: (undef) :: (undef) :: (undef) :: (undef) :: (undef) :: (undef) :: (undef) :: []), []⟩) (fun V => by kernel_rfl) ?last
  case stable =>
    intro i v x y ht hb
    rcases i with _ | i
    · exact ht
    rcases i with _ | i
    · exact (ProgAt.later ht hb)
    rcases i with _ | i
    · exact ht
    rcases i with _ | i
    · exact (SmsAt.later ht hb)
    rcases i with _ | i
    · exact ht
    rcases i with _ | i
    · exact ht
    rcases i with _ | i
    · exact ht
    rcases i with _ | i
    · exact ht
    rcases i with _ | i
    · exact (NoB.later ht hb)
    exact trivial
  case step =>
    intro i o hin ho ρ y x hBx hdep hout
    rcases i with _ | i
    · obtain rfl := Option.some.inj ho
      have o0 : ρ (.tmp 0) = .slice s0 n0 cap0 := hout (.tmp 0) rfl
      clear hdep hout
      refine .inl ⟨rfl, ?_⟩
      show GivesP _ _ _ (fun v _ => v = .slice s0 n0 cap0) _
      refine GivesP.val (.slice s0 n0 cap0) rfl ?_
      go_simp
    rcases i with _ | i
    · obtain rfl := Option.some.inj ho
      have e0 : ρ (.tmp 24) = .slice s0 n0 cap0 := (hdep ⟨0, .data⟩ (by simp) rfl 24 rfl).1
      have ofn : ∀ f, ρ (.func f) = .func (.func f) #[] #[] := fun f => hout (.func f) rfl
      clear hdep hout
      refine .inl ⟨rfl, ?_⟩
      show GivesP _ _ _ (fun v x => ProgAt x 0 v P) _
      refine GivesP.call ((toProcS_any x 0 _ P ((HP.out.later HB2.out.1).later hBx) HN.out.1 HN.out.2).mono fun e w9 h9 => ⟨h9.choose, h9.choose_spec.1, h9.choose_spec.2.1.lowerW (Nat.zero_le _), h9.choose_spec.2.2⟩) ?_
      go_simp
    rcases i with _ | i
    · obtain rfl := Option.some.inj ho
      have o1 : ρ (.tmp 1) = .slice s1 n1 cap1 := hout (.tmp 1) rfl
      clear hdep hout
      refine .inl ⟨rfl, ?_⟩
      show GivesP _ _ _ (fun v _ => v = .slice s1 n1 cap1) _
      refine GivesP.val (.slice s1 n1 cap1) rfl ?_
      go_simp
    rcases i with _ | i
    · obtain rfl := Option.some.inj ho
      have e2 : ρ (.tmp 26) = .slice s1 n1 cap1 := (hdep ⟨2, .data⟩ (by simp) rfl 26 rfl).1
      have ofn : ∀ f, ρ (.func f) = .func (.func f) #[] #[] := fun f => hout (.func f) rfl
      clear hdep hout
      refine .inl ⟨rfl, ?_⟩
      show GivesP _ _ _ (fun v x => SmsAt x v M) _
      refine GivesP.call ((toSumS_any x _ M ((HM.out.later HB2.out.1).later hBx) HSZ.out).mono fun e w9 h9 => h9) ?_
      go_simp
    rcases i with _ | i
    · obtain rfl := Option.some.inj ho
      have o2 : ρ (.tmp 2) = .int .i64 p := hout (.tmp 2) rfl
      clear hdep hout
      refine .inl ⟨rfl, ?_⟩
      show GivesP _ _ _ (fun v _ => v = .int .i64 p) _
      refine GivesP.val (.int .i64 p) rfl ?_
      go_simp
    rcases i with _ | i
    · obtain rfl := Option.some.inj ho
      have o7 : ρ (.tmp 7) = .pointer (some ⟨w.heap.size, 0, none⟩) := hout (.tmp 7) rfl
      clear hdep hout
      refine .inl ⟨rfl, ?_⟩
      have kb := HB2.out.2.later hBx
      have c0 := kb.c 0 _ rfl
      have c1 := kb.c 1 _ rfl
      have c2 := kb.c 2 _ rfl
      have cl0 := kb.lt
      show GivesP _ _ _ (fun v _ => v = .agg #[.bool a, .int .i64 l, .int .i64 u]) _
      refine GivesP.val (.agg #[.bool a, .int .i64 l, .int .i64 u]) rfl ?_
      go_simp
    rcases i with _ | i
    · obtain rfl := Option.some.inj ho
      have e5 : ρ (.tmp 29) = .agg #[.bool a, .int .i64 l, .int .i64 u] := (hdep ⟨5, .data⟩ (by simp) rfl 29 rfl).1
      have ofn : ∀ f, ρ (.func f) = .func (.func f) #[] #[] := fun f => hout (.func f) rfl
      clear hdep hout
      refine .inl ⟨rfl, ?_⟩
      show GivesP _ _ _ (fun v _ => v = .agg #[.bool a, .int .i64 l, .int .i64 u]) _
      refine GivesP.call ((toSpan_any a l u x).mono fun e w9 h9 => ⟨_, h9.1, rfl, h9.2⟩) ?_
      go_simp
    rcases i with _ | i
    · obtain rfl := Option.some.inj ho
      have t1 := (hdep ⟨1, .data⟩ (by simp) rfl 25 rfl).1
      have t1 : (fun v x => ProgAt x 0 v P) (ρ (.tmp 25)) x := t1
      obtain t1 := t1
      have t3 := (hdep ⟨3, .data⟩ (by simp) rfl 27 rfl).1
      have t3 : (fun v x => SmsAt x v M) (ρ (.tmp 27)) x := t3
      obtain t3 := t3
      have e4 : ρ (.tmp 28) = .int .i64 p := (hdep ⟨4, .data⟩ (by simp) rfl 28 rfl).1
      have e6 : ρ (.tmp 30) = .agg #[.bool a, .int .i64 l, .int .i64 u] := (hdep ⟨6, .data⟩ (by simp) rfl 30 rfl).1
      have ofn : ∀ f, ρ (.func f) = .func (.func f) #[] #[] := fun f => hout (.func f) rfl
      clear hdep hout
      refine .inl ⟨rfl, ?_⟩
      show GivesP _ _ _ (fun v _ => v = .agg #[.bool oa, .int .i64 ol, .int .i64 ou]) _
      refine GivesP.call ((HSP.out x _ t1 _ t3).mono fun e w9 h9 => ⟨_, h9.1, rfl, h9.2⟩) ?_
      go_simp
    rcases i with _ | i
    · obtain rfl := Option.some.inj ho
      clear hdep hout
      refine .inl ⟨rfl, ?_⟩
      show GivesP _ _ _ (fun v x => NoB w2.heap.size v x) _
      refine GivesP.made (.pointer (some ⟨x.heap.size, 0, none⟩)) (x.alloc (.cells #[.bool false, .int .i64 0, .int .i64 0] 47)) ((Below.refl _ _).alloc (Nat.le_refl _) _) (⟨_, rfl, hBx.size, BxN.new x [_, _, _] _⟩) ?_
      go_simp
    exact absurd hin (by omega)
  case last =>
    intro V x hBx hV
    have e7 : V 7 = .agg #[.bool oa, .int .i64 ol, .int .i64 ou] := hV 7 (by omega)
    have t8 := hV 8 (by omega)
    have t8 : (fun v x => NoB w2.heap.size v x) (V 8) x := t8
    obtain ⟨m8, e8, hm8, hN8⟩ := t8
    clear hV
    have HX9 := HB2.out.2.later hBx
    have HP9 : Hid (Below w.heap.size w (set3 x m8 0 (.bool oa) (.int .i64 ol) (.int .i64 ou)) ∧ BxN (set3 x m8 0 (.bool oa) (.int .i64 ol) (.int .i64 ou)) w.heap.size [.bool a, .int .i64 l, .int .i64 u] ∧ BxN (set3 x m8 0 (.bool oa) (.int .i64 ol) (.int .i64 ou)) m8 [.bool oa, .int .i64 ol, .int .i64 ou]) := by
      unfold set3
      exact ⟨(((HB2.out.1.trans (hBx.mono HB2.out.1.size)).setCell (by show _ ≤ m8; omega) _).setCell (by show _ ≤ m8; omega) _).setCell (by show _ ≤ m8; omega) _, ((HX9.off (by omega)).off (by omega)).off (by omega), ((hN8.set 0 (by simp) _).set 1 (by simp) _).set 2 (by simp) _⟩
    have rl := hN8.lt
    have z0 := hN8.fz 0
    have z1 := hN8.fz 1
    have z2 := hN8.fz 2
    have k0 := hN8.c 0 _ rfl
    have k1 := hN8.c 1 _ rfl
    have k2 := hN8.c 2 _ rfl
    refine ⟨set3 x m8 0 (.bool oa) (.int .i64 ol) (.int .i64 ou), ?_, ?_⟩
    · unfold set3
      go_simp
    clear HX9 hN8 rl z0 z1 z2 k0 k1 k2 hBx HB2 HSP
    generalize set3 x m8 0 (.bool oa) (.int .i64 ol) (.int .i64 ou) = w3 at HP9 ⊢
    rw [e8]
    clear e7 e8
    go_wp2_with fail
    refine (toProcS_any _ 0 _ P (HP.out.later HP9.out.1) HN.out.1 HN.out.2).mono ?_
    rintro e w4 ⟨u4, rfl, hP4, hb4⟩
    have H4 : Hid (Below w.heap.size w w4 ∧ BxN w4 w.heap.size [.bool a, .int .i64 l, .int .i64 u] ∧ BxN w4 m8 [.bool oa, .int .i64 ol, .int .i64 ou] ∧ ProgAt w4 0 u4 P) := ⟨HP9.out.1.trans (hb4.mono HP9.out.1.size), HP9.out.2.1.later hb4, HP9.out.2.2.later hb4, hP4.lowerW (Nat.zero_le _)⟩
    clear hP4 hb4 HP9
    go_wp2_with fail
    refine (toSumS_any _ _ M (HM.out.later H4.out.1) HSZ.out).mono ?_
    rintro e w5 ⟨u5, rfl, hM5, hb5⟩
    have H5 : Hid (Below w.heap.size w w5 ∧ BxN w5 w.heap.size [.bool a, .int .i64 l, .int .i64 u] ∧ BxN w5 m8 [.bool oa, .int .i64 ol, .int .i64 ou] ∧ ProgAt w5 0 u4 P ∧ SmsAt w5 u5 M) := ⟨H4.out.1.trans (hb5.mono H4.out.1.size), H4.out.2.1.later hb5, H4.out.2.2.1.later hb5, H4.out.2.2.2.later hb5, hM5⟩
    clear hM5 hb5 H4
    have kb := H5.out.2.1
    have b0 := kb.c 0 _ rfl
    have b1 := kb.c 1 _ rfl
    have b2 := kb.c 2 _ rfl
    have bl := kb.lt
    clear kb
    go_wp2_with fail
    clear b0 b1 b2 bl
    refine (toSpan_any a l u w5).mono ?_
    rintro e w6 ⟨rfl, hb6⟩
    have H6 : Hid (Below w.heap.size w w6 ∧ BxN w6 m8 [.bool oa, .int .i64 ol, .int .i64 ou] ∧ ProgAt w6 0 u4 P ∧ SmsAt w6 u5 M) := ⟨H5.out.1.trans (hb6.mono H5.out.1.size), H5.out.2.2.1.later hb6, H5.out.2.2.2.1.later hb6, H5.out.2.2.2.2.later hb6⟩
    clear hb6 H5
    go_wp2_with fail
    refine (HIM.out w6 _ H6.out.2.2.1 _ H6.out.2.2.2).mono ?_
    rintro e w7 ⟨hr7, hb7⟩
    obtain rfl := hr7
    dsimp only
    have H7 : Hid (Below w.heap.size w (w7.alloc (.cells #[.bool oa, .int .i64 ol, .int .i64 ou] 47)) ∧ BxN (w7.alloc (.cells #[.bool oa, .int .i64 ol, .int .i64 ou] 47)) m8 [.bool oa, .int .i64 ol, .int .i64 ou] ∧ BxN (w7.alloc (.cells #[.bool oa, .int .i64 ol, .int .i64 ou] 47)) w7.heap.size [.bool oa, .int .i64 ol, .int .i64 ou] ∧ ProgAt (w7.alloc (.cells #[.bool oa, .int .i64 ol, .int .i64 ou] 47)) 0 u4 P ∧ SmsAt (w7.alloc (.cells #[.bool oa, .int .i64 ol, .int .i64 ou] 47)) u5 M) := by
      have hal : Below w7.heap.size w7 (w7.alloc (.cells #[.bool oa, .int .i64 ol, .int .i64 ou] 47)) := (Below.refl _ _).alloc (Nat.le_refl _) _
      exact ⟨(H6.out.1.trans (hb7.mono H6.out.1.size)).alloc (Nat.le_trans H6.out.1.size hb7.size) _, (H6.out.2.1.later hb7).later hal, BxN.new w7 [_, _, _] _, (H6.out.2.2.1.later hb7).later hal, (H6.out.2.2.2.later hb7).later hal⟩
    clear hb7 H6 HIM
    have k8 := H7.out.2.1
    have a0 := k8.c 0 _ rfl
    have a1 := k8.c 1 _ rfl
    have a2 := k8.c 2 _ rfl
    have al := k8.lt
    have k7 := H7.out.2.2.1
    have d0 := k7.c 0 _ rfl
    have d1 := k7.c 1 _ rfl
    have d2 := k7.c 2 _ rfl
    have dl := k7.lt
    clear k7 k8
    go_wp2_with fail
    clear a0 a1 a2 al d0 d1 d2 dl
    generalize w7.alloc (.cells #[.bool oa, .int .i64 ol, .int .i64 ou] 47) = w8 at H7 ⊢
    refine (eqSpan_same oa ol ou w8).mono ?_
    rintro e w9 ⟨rfl, hb9⟩
    have H9 : Hid (Below w.heap.size w w9 ∧ ProgAt w9 0 u4 P ∧ SmsAt w9 u5 M) := ⟨H7.out.1.trans (hb9.mono H7.out.1.size), H7.out.2.2.2.1.later hb9, H7.out.2.2.2.2.later hb9⟩
    clear hb9 H7
    go_wp2_with fail
    refine (toProcS_any _ 0 _ P (HP.out.later H9.out.1) HN.out.1 HN.out.2).mono ?_
    rintro e wa ⟨ua, rfl, hPa, hba⟩
    have Ha : Hid (Below w.heap.size w wa ∧ ProgAt wa 0 u4 P ∧ SmsAt wa u5 M) := ⟨H9.out.1.trans (hba.mono H9.out.1.size), H9.out.2.1.later hba, H9.out.2.2.later hba⟩
    have HQ : Hid (ProgAt wa w9.heap.size ua P) := hPa
    clear hPa hba H9
    go_wp2_with fail
    refine (eqProcS_same wa _ _ u4 ua P Ha.out.2.1 HQ.out).mono ?_
    rintro e wb ⟨rfl, hbb⟩
    have Hb : Hid (Below w.heap.size w wb ∧ SmsAt wb u5 M) := ⟨Ha.out.1.trans (hbb.mono Ha.out.1.size), Ha.out.2.2.later hbb⟩
    clear hbb Ha HQ
    go_wp2_with fail
    refine (toSumS_any _ _ M (HM.out.later Hb.out.1) HSZ.out).mono ?_
    rintro e wc ⟨uc, rfl, hMc, hbc⟩
    have Hc : Hid (Below w.heap.size w wc ∧ SmsAt wc u5 M ∧ SmsAt wc uc M) := ⟨Hb.out.1.trans (hbc.mono Hb.out.1.size), Hb.out.2.later hbc, hMc⟩
    clear hMc hbc Hb
    go_wp2_with fail
    refine (eqSumS_any wc u5 uc M Hc.out.2.1 Hc.out.2.2).mono ?_
    rintro e wd ⟨rfl, hbd⟩
    have hfin := Hc.out.1.trans (hbd.mono Hc.out.1.size)
    clear hbd Hc
    go_wp2_with fail
    go_ret
    exact ⟨rfl, hfin⟩

end Go.Proofs.YtlkebkajdlgebaaGreat
