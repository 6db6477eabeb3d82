import Derived.Test.YtlkebkajdlgebaaGreatB32
import Derived.Test.YtlkebkajdlgebaaGreatB21
import Derived.Test.YtlkebkajdlgebaaGreatB22
import Derived.Test.YtlkebkajdlgebaaGreatB30
import Derived.Test.YtlkebkajdlgebaaGreatB25
/-
  Whether a sum is ok: the contract of the model's SumOk.
-/
namespace Go.Proofs.YtlkebkajdlgebaaGreat
open Go.RowKit
set_option linter.unusedVariables false
set_option linter.unusedSimpArgs false

/-- what each procedure of a program calls -/
def callsQ (P : List (List I4)) (k : Nat) : Int → Bool := calledF (P.getD k [])
/-- a row that lies somewhere: its slices' headers -/
theorem RwC.cells {x : World} {g o : Nat} {r : Rw} (h : RwC x g o r) : ∃ p3 c3 p4 c4, x.cell? ⟨g, o, none⟩ = some (.bool r.o.1) ∧ x.cell? ⟨g, o + 1, none⟩ = some (.int .i64 r.o.2.1) ∧ x.cell? ⟨g, o + 2, none⟩ = some (.int .i64 r.o.2.2) ∧
    x.cell? ⟨g, o + 3, none⟩ = some (.slice p3 r.ns c3) ∧ x.cell? ⟨g, o + 4, none⟩ = some (.slice p4 r.nc c4) ∧ IRowW 3 x (.slice p3 r.ns c3) r.ns r.S ∧ IRowW 2 x (.slice p4 r.nc c4) r.nc r.C := by
  obtain ⟨c0, c1, c2, ⟨u3, c3, i3⟩, ⟨u4, c4, i4⟩⟩ := h
  obtain ⟨p3, k3, rfl⟩ := i3.shape
  obtain ⟨p4, k4, rfl⟩ := i4.shape
  exact ⟨p3, k3, p4, k4, c0, c1, c2, c3, c4, i3, i4⟩
theorem rowF_spec (x0 : World) (B : Nat) (v : Value) (P : List (List I4)) (h : ProgAt x0 B v P) (hok : progOkF P = true) (k0 : Nat) (hk0 : k0 < P.length) (r : Rw) (p3 p4 : Option Addr) (c3 c4 : Nat) (hs : IRowW 3 x0 (.slice p3 r.ns c3) r.ns r.S) (hc : IRowW 2 x0 (.slice p4 r.nc c4) r.nc r.C) (b : Bool) (hb : rowF P k0 (callsQ P k0) r = b) (z : World) (hz : Below x0.heap.size x0 z) :
    Calls Tryz.prog 32 #[v, .int .i64 k0, .agg #[.bool r.o.1, .int .i64 r.o.2.1, .int .i64 r.o.2.2, .slice p3 r.ns c3, .slice p4 r.nc c4]] z fun e y => e = .returned (.bool b) ∧ Below z.heap.size z y := by
  have := rowOk_spec z B v P (h.later hz) hok k0 hk0 r _ _ (hs.later hz) (hc.later hz)
  rw [rowG_eq] at this
  rw [show calledF (P.getD k0 []) = callsQ P k0 from rfl, hb] at this
  exact this

set_option maxRecDepth 100000 in
set_option maxHeartbeats 8000000 in
theorem sumOk_spec (x0 : World) (B : Nat) (v : Value) (P : List (List I4)) (h : ProgAt x0 B v P) (s : Sm) (u : Value) (hs : RowsAt x0 u s.R) :
    Calls Tryz.prog 9 #[v, .agg #[.int .i64 s.p, u]] x0 fun e y => e = .returned (.bool (progOkF P && sumF P (callsQ P) s)) ∧ Below x0.heap.size x0 y := by
  obtain ⟨n0, R⟩ := s
  dsimp only at hs
  obtain ⟨pp, cp, rfl, _⟩ := h.shape
  obtain ⟨ps, cs, rfl, hm⟩ := hs.shape
  unfold maxLen at hm
  have hri : (R.length : Int) ≤ 9223372036854775807 := by omega
  have HF : Hid ((progOkF P && sumF P (callsQ P) ⟨n0, R⟩) = (progOkF P && (inI n0 0 (P.length - 1) && decide (R.length = 3) && allB (fun j => rowF P n0 (callsQ P n0.toNat) (R.getD j rw0)) R.length))) := rfl
  generalize (progOkF P && sumF P (callsQ P) ⟨n0, R⟩) = F at HF ⊢
  have HP : Hid (ProgAt x0 B (.slice pp P.length cp) P) := h
  have HS : Hid (RowsAt x0 (.slice ps R.length cs) R) := hs
  have HPI : Hid (hasPF P n0 = (progOkF P && inI n0 0 (P.length - 1))) := rfl
  clear h hs hm
  dsimp only
  generalize hpn : P.length = pn at *
  have HPN : Hid (P.length = pn) := hpn
  clear hpn
  generalize hrn : R.length = rn at *
  have HRN : Hid (R.length = rn) := hrn
  clear hrn
  go_enter Tryz.func9, Tryz.ntmps9
  go_wp2_with fail
  have HX : Hid (Below x0.heap.size x0 (x0.alloc (.cells #[.int .i64 n0, .slice ps rn cs] 33))) := (Below.refl _ _).alloc (Nat.le_refl _) _
  have KX : Hid (BxN (x0.alloc (.cells #[.int .i64 n0, .slice ps rn cs] 33)) x0.heap.size [.int .i64 n0, .slice ps rn cs]) := BxN.new x0 [_, _] _
  generalize x0.alloc (.cells #[.int .i64 n0, .slice ps rn cs] 33) = X at HX KX ⊢
  refine (l2Proc_any X B _ P (by have := HP.out.later HX.out; exact this) n0).mono ?_
  rintro e y ⟨rfl, hb⟩
  have HY : Hid (Below x0.heap.size x0 y) := HX.out.trans (hb.mono HX.out.size)
  have KY := KX.out.laterH hb
  clear hb HX KX
  cases h1 : hasPF P n0
  · have HNO : Hid (F = false) := by
      show _ = _
      rw [HF.out]
      have := HPI.out
      rw [h1] at this
      cases hp : progOkF P
      · rfl
      · rw [hp] at this
        rw [show inI n0 0 (pn - 1) = false from by simpa using this.symm]
        rfl
    clear HF HPI h1
    go_wp2_with fail
    go_ret
    exact ⟨ret_bool (by rw [HNO.out]), HY.out⟩
  · obtain ⟨k0, rfl, hk0, hok⟩ := hasPF_at h1
    have HK : Hid (k0 < P.length) := hk0
    have HOK : Hid (progOkF P = true) := hok
    have hin : inI k0 0 (pn - 1) = true := by
      have := HPI.out
      rw [h1, hok] at this
      simpa using this.symm
    have a0 := KY.out.c 0 _ rfl
    have a1 := KY.out.c 1 _ rfl
    have l1 := KY.out.lt
    by_cases h3 : rn = 3
    · subst h3
      have HF2 : Hid (F = (rowF P k0 (callsQ P k0) (R.getD 0 rw0) && rowF P k0 (callsQ P k0) (R.getD 1 rw0) && rowF P k0 (callsQ P k0) (R.getD 2 rw0))) := by
        show _ = _
        rw [HF.out, hin, hok]
        simp [allB, List.range_succ, Bool.and_assoc]
      clear HF h1 hin hok hk0 HPI
      obtain ⟨g, o, rfl, hgx, hr0⟩ := RowsAt.row (p := ps) (cap := cs) (R := R) (j := 0) (by have := HS.out; rw [HRN.out]; exact this) (by rw [HRN.out]; omega)
      obtain ⟨g', o', he, _, hr1⟩ := RowsAt.row (p := some ⟨g, o, none⟩) (cap := cs) (R := R) (j := 1) (by have := HS.out; rw [HRN.out]; exact this) (by rw [HRN.out]; omega)
      obtain ⟨rfl, rfl⟩ : g = g' ∧ o = o' := by injection he with e; injection e with e1 e2; exact ⟨e1, e2⟩
      obtain ⟨g', o', he, _, hr2⟩ := RowsAt.row (p := some ⟨g, o, none⟩) (cap := cs) (R := R) (j := 2) (by have := HS.out; rw [HRN.out]; exact this) (by rw [HRN.out]; omega)
      obtain ⟨rfl, rfl⟩ : g = g' ∧ o = o' := by injection he with e; injection e with e1 e2; exact ⟨e1, e2⟩
      rw [show o + 0 * 5 = o by omega] at hr0
      rw [show o + 1 * 5 = o + 5 by omega] at hr1
      rw [show o + 2 * 5 = o + 10 by omega] at hr2
      obtain ⟨p3, c3, p4, c4, z0, z1, z2, z3, z4, i3, i4⟩ := hr0.cells
      obtain ⟨q3, d3, q4, d4, y0, y1, y2, y3, y4, j3, j4⟩ := hr1.cells
      obtain ⟨s3, e3, s4, e4, x1, x2, x3, x4, x5, k3, k4⟩ := hr2.cells
      clear hr0 hr1 hr2
      generalize R.getD 0 rw0 = r0 at *
      generalize R.getD 1 rw0 = r1 at *
      generalize R.getD 2 rw0 = r2 at *
      have HR0 : Hid (∀ b, rowF P k0 (callsQ P k0) r0 = b → ∀ z : World, Below x0.heap.size x0 z → Calls Tryz.prog 32 #[.slice pp pn cp, .int .i64 k0, .agg #[.bool r0.o.1, .int .i64 r0.o.2.1, .int .i64 r0.o.2.2, .slice p3 r0.ns c3, .slice p4 r0.nc c4]] z fun e y => e = .returned (.bool b) ∧ Below z.heap.size z y) := fun b hb z hz => rowF_spec x0 B _ P HP.out HOK.out k0 HK.out r0 p3 p4 c3 c4 i3 i4 b hb z hz
      have HR1 : Hid (∀ b, rowF P k0 (callsQ P k0) r1 = b → ∀ z : World, Below x0.heap.size x0 z → Calls Tryz.prog 32 #[.slice pp pn cp, .int .i64 k0, .agg #[.bool r1.o.1, .int .i64 r1.o.2.1, .int .i64 r1.o.2.2, .slice q3 r1.ns d3, .slice q4 r1.nc d4]] z fun e y => e = .returned (.bool b) ∧ Below z.heap.size z y) := fun b hb z hz => rowF_spec x0 B _ P HP.out HOK.out k0 HK.out r1 q3 q4 d3 d4 j3 j4 b hb z hz
      have HR2 : Hid (∀ b, rowF P k0 (callsQ P k0) r2 = b → ∀ z : World, Below x0.heap.size x0 z → Calls Tryz.prog 32 #[.slice pp pn cp, .int .i64 k0, .agg #[.bool r2.o.1, .int .i64 r2.o.2.1, .int .i64 r2.o.2.2, .slice s3 r2.ns e3, .slice s4 r2.nc e4]] z fun e y => e = .returned (.bool b) ∧ Below z.heap.size z y) := fun b hb z hz => rowF_spec x0 B _ P HP.out HOK.out k0 HK.out r2 s3 s4 e3 e4 k3 k4 b hb z hz
      clear i3 i4 j3 j4 k3 k4 HP HS HOK HK
      go_wp2_with fail
      clear a0 a1 l1
      have HF3 : Hid (∀ b0 b1 b2, rowF P k0 (callsQ P k0) r0 = b0 → rowF P k0 (callsQ P k0) r1 = b1 → rowF P k0 (callsQ P k0) r2 = b2 → F = (b0 && b1 && b2)) := fun b0 b1 b2 h0 h1 h2 => by rw [HF2.out, h0, h1, h2]
      clear HF2
      cases hb0 : rowF P k0 (callsQ P k0) r0
      · have HV := HF3.out _ _ _ hb0 rfl rfl
        have HV2 : Hid (F = false) := by show _ = _; rw [HV]; rfl
        clear HV HF3
        refine wp_region_vals (by kernel_rfl) (by kernel_rfl) (by kernel_rfl) (by kernel_rfl) (fun j => [.slice pp pn cp, .pointer (some ⟨x0.heap.size, 0, none⟩), .int .i64 ↑k0, .pointer (some ⟨x0.heap.size, 1, none⟩), .slice (some ⟨g, o, none⟩) 3 cs, .pointer (some ⟨g, o, none⟩), .agg #[.bool r0.o.1, .int .i64 r0.o.2.1, .int .i64 r0.o.2.2, .slice p3 r0.ns c3, .slice p4 r0.nc c4], .bool false, .bool false, undef, undef, undef, undef, undef, undef, undef, undef, .bool false, .bool false, undef, undef, undef, undef, undef, undef, undef, undef, .bool false, .bool false].getD j undef) y (Below.drew (Below.refl _ _)) ?step ⟨#[.slice pp pn cp, .agg #[.int .i64 ↑k0, .slice (some ⟨g, o, none⟩) 3 cs], undef, .pointer (some ⟨x0.heap.size, 0, none⟩), .bool false, .slice pp pn cp, .pointer (some ⟨x0.heap.size, 0, none⟩), .int .i64 ↑k0, .bool true, .bool false, .bool false, .pointer (some ⟨x0.heap.size, 1, none⟩), .slice (some ⟨g, o, none⟩) 3 cs, .int .i64 3, .bool false, .bool false, .slice pp pn cp, .pointer (some ⟨x0.heap.size, 0, none⟩), .int .i64 ↑k0, .pointer (some ⟨x0.heap.size, 1, none⟩), .slice (some ⟨g, o, none⟩) 3 cs, .pointer (some ⟨g, o, none⟩), .agg #[.bool r0.o.1, .int .i64 r0.o.2.1, .int .i64 r0.o.2.2, .slice p3 r0.ns c3, .slice p4 r0.nc c4], .bool false, .bool false, undef, undef, undef, undef, undef, undef, undef, undef, .bool false, .bool false, undef, undef, undef, undef, undef, undef, undef, undef, .bool false], []⟩ (by kernel_rfl) ?fin
        case step =>
          intro i o ho ρ y x hBx hdep hout
          rcases i with _ | i
          · obtain rfl := Option.some.inj ho
            have o0 : ρ (.tmp 0) = .slice pp pn cp := hout (.tmp 0) rfl
            clear hdep hout
            refine .inl ⟨rfl, (Gives.val ?_ : Gives _ _ _ (.slice pp pn cp) _)⟩
            go_simp
          rcases i with _ | i
          · obtain rfl := Option.some.inj ho
            have o3 : ρ (.tmp 3) = .pointer (some ⟨x0.heap.size, 0, none⟩) := hout (.tmp 3) rfl
            clear hdep hout
            refine .inl ⟨rfl, (Gives.val ?_ : Gives _ _ _ (.pointer (some ⟨x0.heap.size, 0, none⟩)) _)⟩
            go_simp
          rcases i with _ | i
          · obtain rfl := Option.some.inj ho
            have e1 : ρ (.tmp 17) = .pointer (some ⟨x0.heap.size, 0, none⟩) := (hdep ⟨1, .data⟩ (by simp) rfl).1 17 rfl
            clear hdep hout
            have kb := KY.out.later hBx
            have c0 := kb.c 0 _ rfl
            have c1 := kb.c 1 _ rfl
            have cl0 := kb.lt
            refine .inl ⟨rfl, (Gives.val ?_ : Gives _ _ _ (.int .i64 ↑k0) _)⟩
            go_simp
          rcases i with _ | i
          · obtain rfl := Option.some.inj ho
            have o3 : ρ (.tmp 3) = .pointer (some ⟨x0.heap.size, 0, none⟩) := hout (.tmp 3) rfl
            clear hdep hout
            refine .inl ⟨rfl, (Gives.val ?_ : Gives _ _ _ (.pointer (some ⟨x0.heap.size, 1, none⟩)) _)⟩
            go_simp
          rcases i with _ | i
          · obtain rfl := Option.some.inj ho
            have e3 : ρ (.tmp 19) = .pointer (some ⟨x0.heap.size, 1, none⟩) := (hdep ⟨3, .data⟩ (by simp) rfl).1 19 rfl
            clear hdep hout
            have kb := KY.out.later hBx
            have c0 := kb.c 0 _ rfl
            have c1 := kb.c 1 _ rfl
            have cl0 := kb.lt
            refine .inl ⟨rfl, (Gives.val ?_ : Gives _ _ _ (.slice (some ⟨g, o, none⟩) 3 cs) _)⟩
            go_simp
          rcases i with _ | i
          · obtain rfl := Option.some.inj ho
            have e4 : ρ (.tmp 20) = .slice (some ⟨g, o, none⟩) 3 cs := (hdep ⟨4, .data⟩ (by simp) rfl).1 20 rfl
            have ocn : ∀ v, ρ (.const v) = v := fun v => hout (.const v) rfl
            clear hdep hout
            refine .inl ⟨rfl, (Gives.val ?_ : Gives _ _ _ (.pointer (some ⟨g, o, none⟩)) _)⟩
            go_simp
          rcases i with _ | i
          · obtain rfl := Option.some.inj ho
            have e5 : ρ (.tmp 21) = .pointer (some ⟨g, o, none⟩) := (hdep ⟨5, .data⟩ (by simp) rfl).1 21 rfl
            clear hdep hout
            have hbz := (HY.out.trans (hBx.mono HY.out.size))
            have m0 := (hbz.cell (p := ⟨g, o, none⟩) hgx).trans z0
            have m1 := (hbz.cell (p := ⟨g, o + 1, none⟩) hgx).trans z1
            have m2 := (hbz.cell (p := ⟨g, o + 2, none⟩) hgx).trans z2
            have m3 := (hbz.cell (p := ⟨g, o + 3, none⟩) hgx).trans z3
            have m4 := (hbz.cell (p := ⟨g, o + 4, none⟩) hgx).trans z4
            refine .inl ⟨rfl, (Gives.val ?_ : Gives _ _ _ (.agg #[.bool r0.o.1, .int .i64 r0.o.2.1, .int .i64 r0.o.2.2, .slice p3 r0.ns c3, .slice p4 r0.nc c4]) _)⟩
            go_simp
          rcases i with _ | i
          · obtain rfl := Option.some.inj ho
            have e0 : ρ (.tmp 16) = .slice pp pn cp := (hdep ⟨0, .data⟩ (by simp) rfl).1 16 rfl
            have e2 : ρ (.tmp 18) = .int .i64 ↑k0 := (hdep ⟨2, .data⟩ (by simp) rfl).1 18 rfl
            have e6 : ρ (.tmp 22) = .agg #[.bool r0.o.1, .int .i64 r0.o.2.1, .int .i64 r0.o.2.2, .slice p3 r0.ns c3, .slice p4 r0.nc c4] := (hdep ⟨6, .data⟩ (by simp) rfl).1 22 rfl
            have ofn : ∀ f, ρ (.func f) = .func (.func f) #[] #[] := fun f => hout (.func f) rfl
            clear hdep hout
            refine .inl ⟨?_, ?_⟩
            · rfl
            show Gives _ _ _ (.bool false) _
            refine Gives.call (HR0.out _ hb0 x (HY.out.trans (hBx.mono HY.out.size))) ?_
            go_simp
          rcases i with _ | i
          · obtain rfl := Option.some.inj ho
            have e7 : ρ (.tmp 23) = .bool false := (hdep ⟨7, .data⟩ (by simp) rfl).1 23 rfl
            clear hdep hout
            refine .inl ⟨rfl, (Gives.val ?_ : Gives _ _ _ (.bool false) _)⟩
            go_simp
          rcases i with _ | i
          · obtain rfl := Option.some.inj ho
            have yg : y 8 = some false := (hdep ⟨8, .guard⟩ (by simp) rfl).2 24 rfl
            exact .inr ⟨by show (y 8 == some true) = false; rw [yg]; rfl, rfl⟩
          rcases i with _ | i
          · obtain rfl := Option.some.inj ho
            have yg : y 8 = some false := (hdep ⟨8, .guard⟩ (by simp) rfl).2 24 rfl
            exact .inr ⟨by show (y 8 == some true) = false; rw [yg]; rfl, rfl⟩
          rcases i with _ | i
          · obtain rfl := Option.some.inj ho
            have yg : y 8 = some false := (hdep ⟨8, .guard⟩ (by simp) rfl).2 24 rfl
            exact .inr ⟨by show (y 8 == some true) = false; rw [yg]; rfl, rfl⟩
          rcases i with _ | i
          · obtain rfl := Option.some.inj ho
            have yg : y 8 = some false := (hdep ⟨8, .guard⟩ (by simp) rfl).2 24 rfl
            exact .inr ⟨by show (y 8 == some true) = false; rw [yg]; rfl, rfl⟩
          rcases i with _ | i
          · obtain rfl := Option.some.inj ho
            have yg : y 8 = some false := (hdep ⟨8, .guard⟩ (by simp) rfl).2 24 rfl
            exact .inr ⟨by show (y 8 == some true) = false; rw [yg]; rfl, rfl⟩
          rcases i with _ | i
          · obtain rfl := Option.some.inj ho
            have yg : y 8 = some false := (hdep ⟨8, .guard⟩ (by simp) rfl).2 24 rfl
            exact .inr ⟨by show (y 8 == some true) = false; rw [yg]; rfl, rfl⟩
          rcases i with _ | i
          · obtain rfl := Option.some.inj ho
            have yg : y 8 = some false := (hdep ⟨8, .guard⟩ (by simp) rfl).2 24 rfl
            exact .inr ⟨by show (y 8 == some true) = false; rw [yg]; rfl, rfl⟩
          rcases i with _ | i
          · obtain rfl := Option.some.inj ho
            have yg : y 8 = some false := (hdep ⟨8, .guard⟩ (by simp) rfl).2 24 rfl
            exact .inr ⟨by show (y 8 == some true) = false; rw [yg]; rfl, rfl⟩
          rcases i with _ | i
          · obtain rfl := Option.some.inj ho
            have e8 : ρ (.tmp 24) = .bool false := (hdep ⟨8, .data⟩ (by simp) rfl).1 24 rfl
            have e16 : ρ (.tmp 32) = undef := (hdep ⟨16, .data⟩ (by simp) rfl).1 32 rfl
            have ocn : ∀ v, ρ (.const v) = v := fun v => hout (.const v) rfl
            clear hdep hout
            refine .inl ⟨rfl, (Gives.val ?_ : Gives _ _ _ (.bool false) _)⟩
            go_simp
          rcases i with _ | i
          · obtain rfl := Option.some.inj ho
            have e17 : ρ (.tmp 33) = .bool false := (hdep ⟨17, .data⟩ (by simp) rfl).1 33 rfl
            clear hdep hout
            refine .inl ⟨rfl, (Gives.val ?_ : Gives _ _ _ (.bool false) _)⟩
            go_simp
          rcases i with _ | i
          · obtain rfl := Option.some.inj ho
            have yg : y 18 = some false := (hdep ⟨18, .guard⟩ (by simp) rfl).2 34 rfl
            exact .inr ⟨by show (y 18 == some true) = false; rw [yg]; rfl, rfl⟩
          rcases i with _ | i
          · obtain rfl := Option.some.inj ho
            have yg : y 18 = some false := (hdep ⟨18, .guard⟩ (by simp) rfl).2 34 rfl
            exact .inr ⟨by show (y 18 == some true) = false; rw [yg]; rfl, rfl⟩
          rcases i with _ | i
          · obtain rfl := Option.some.inj ho
            have yg : y 18 = some false := (hdep ⟨18, .guard⟩ (by simp) rfl).2 34 rfl
            exact .inr ⟨by show (y 18 == some true) = false; rw [yg]; rfl, rfl⟩
          rcases i with _ | i
          · obtain rfl := Option.some.inj ho
            have yg : y 18 = some false := (hdep ⟨18, .guard⟩ (by simp) rfl).2 34 rfl
            exact .inr ⟨by show (y 18 == some true) = false; rw [yg]; rfl, rfl⟩
          rcases i with _ | i
          · obtain rfl := Option.some.inj ho
            have yg : y 18 = some false := (hdep ⟨18, .guard⟩ (by simp) rfl).2 34 rfl
            exact .inr ⟨by show (y 18 == some true) = false; rw [yg]; rfl, rfl⟩
          rcases i with _ | i
          · obtain rfl := Option.some.inj ho
            have yg : y 18 = some false := (hdep ⟨18, .guard⟩ (by simp) rfl).2 34 rfl
            exact .inr ⟨by show (y 18 == some true) = false; rw [yg]; rfl, rfl⟩
          rcases i with _ | i
          · obtain rfl := Option.some.inj ho
            have yg : y 18 = some false := (hdep ⟨18, .guard⟩ (by simp) rfl).2 34 rfl
            exact .inr ⟨by show (y 18 == some true) = false; rw [yg]; rfl, rfl⟩
          rcases i with _ | i
          · obtain rfl := Option.some.inj ho
            have yg : y 18 = some false := (hdep ⟨18, .guard⟩ (by simp) rfl).2 34 rfl
            exact .inr ⟨by show (y 18 == some true) = false; rw [yg]; rfl, rfl⟩
          rcases i with _ | i
          · obtain rfl := Option.some.inj ho
            have e18 : ρ (.tmp 34) = .bool false := (hdep ⟨18, .data⟩ (by simp) rfl).1 34 rfl
            have e26 : ρ (.tmp 42) = undef := (hdep ⟨26, .data⟩ (by simp) rfl).1 42 rfl
            have ocn : ∀ v, ρ (.const v) = v := fun v => hout (.const v) rfl
            clear hdep hout
            refine .inl ⟨rfl, (Gives.val ?_ : Gives _ _ _ (.bool false) _)⟩
            go_simp
          rcases i with _ | i
          · obtain rfl := Option.some.inj ho
            have e27 : ρ (.tmp 43) = .bool false := (hdep ⟨27, .data⟩ (by simp) rfl).1 43 rfl
            clear hdep hout
            refine .inl ⟨rfl, (Gives.val ?_ : Gives _ _ _ (.bool false) _)⟩
            go_simp
          cases ho
        case fin =>
          intro x hBx
          have hBf := (HY.out.trans (hBx.mono HY.out.size))
          go_wp2_with fail
          go_ret
          exact ⟨ret_bool (by rw [HV2.out]), hBf⟩
      · cases hb1 : rowF P k0 (callsQ P k0) r1
        · have HV := HF3.out _ _ _ hb0 hb1 rfl
          have HV2 : Hid (F = false) := by show _ = _; rw [HV]; rfl
          clear HV HF3
          refine wp_region_vals (by kernel_rfl) (by kernel_rfl) (by kernel_rfl) (by kernel_rfl) (fun j => [.slice pp pn cp, .pointer (some ⟨x0.heap.size, 0, none⟩), .int .i64 ↑k0, .pointer (some ⟨x0.heap.size, 1, none⟩), .slice (some ⟨g, o, none⟩) 3 cs, .pointer (some ⟨g, o, none⟩), .agg #[.bool r0.o.1, .int .i64 r0.o.2.1, .int .i64 r0.o.2.2, .slice p3 r0.ns c3, .slice p4 r0.nc c4], .bool true, .bool true, .slice pp pn cp, .pointer (some ⟨x0.heap.size, 0, none⟩), .int .i64 ↑k0, .pointer (some ⟨x0.heap.size, 1, none⟩), .slice (some ⟨g, o, none⟩) 3 cs, .pointer (some ⟨g, o + 5, none⟩), .agg #[.bool r1.o.1, .int .i64 r1.o.2.1, .int .i64 r1.o.2.2, .slice q3 r1.ns d3, .slice q4 r1.nc d4], .bool false, .bool false, .bool false, undef, undef, undef, undef, undef, undef, undef, undef, .bool false, .bool false].getD j undef) y (Below.drew (Below.refl _ _)) ?step ⟨#[.slice pp pn cp, .agg #[.int .i64 ↑k0, .slice (some ⟨g, o, none⟩) 3 cs], undef, .pointer (some ⟨x0.heap.size, 0, none⟩), .bool false, .slice pp pn cp, .pointer (some ⟨x0.heap.size, 0, none⟩), .int .i64 ↑k0, .bool true, .bool false, .bool false, .pointer (some ⟨x0.heap.size, 1, none⟩), .slice (some ⟨g, o, none⟩) 3 cs, .int .i64 3, .bool false, .bool false, .slice pp pn cp, .pointer (some ⟨x0.heap.size, 0, none⟩), .int .i64 ↑k0, .pointer (some ⟨x0.heap.size, 1, none⟩), .slice (some ⟨g, o, none⟩) 3 cs, .pointer (some ⟨g, o, none⟩), .agg #[.bool r0.o.1, .int .i64 r0.o.2.1, .int .i64 r0.o.2.2, .slice p3 r0.ns c3, .slice p4 r0.nc c4], .bool true, .bool true, .slice pp pn cp, .pointer (some ⟨x0.heap.size, 0, none⟩), .int .i64 ↑k0, .pointer (some ⟨x0.heap.size, 1, none⟩), .slice (some ⟨g, o, none⟩) 3 cs, .pointer (some ⟨g, o + 5, none⟩), .agg #[.bool r1.o.1, .int .i64 r1.o.2.1, .int .i64 r1.o.2.2, .slice q3 r1.ns d3, .slice q4 r1.nc d4], .bool false, .bool false, .bool false, undef, undef, undef, undef, undef, undef, undef, undef, .bool false], []⟩ (by kernel_rfl) ?fin
          case step =>
            intro i o ho ρ y x hBx hdep hout
            rcases i with _ | i
            · obtain rfl := Option.some.inj ho
              have o0 : ρ (.tmp 0) = .slice pp pn cp := hout (.tmp 0) rfl
              clear hdep hout
              refine .inl ⟨rfl, (Gives.val ?_ : Gives _ _ _ (.slice pp pn cp) _)⟩
              go_simp
            rcases i with _ | i
            · obtain rfl := Option.some.inj ho
              have o3 : ρ (.tmp 3) = .pointer (some ⟨x0.heap.size, 0, none⟩) := hout (.tmp 3) rfl
              clear hdep hout
              refine .inl ⟨rfl, (Gives.val ?_ : Gives _ _ _ (.pointer (some ⟨x0.heap.size, 0, none⟩)) _)⟩
              go_simp
            rcases i with _ | i
            · obtain rfl := Option.some.inj ho
              have e1 : ρ (.tmp 17) = .pointer (some ⟨x0.heap.size, 0, none⟩) := (hdep ⟨1, .data⟩ (by simp) rfl).1 17 rfl
              clear hdep hout
              have kb := KY.out.later hBx
              have c0 := kb.c 0 _ rfl
              have c1 := kb.c 1 _ rfl
              have cl0 := kb.lt
              refine .inl ⟨rfl, (Gives.val ?_ : Gives _ _ _ (.int .i64 ↑k0) _)⟩
              go_simp
            rcases i with _ | i
            · obtain rfl := Option.some.inj ho
              have o3 : ρ (.tmp 3) = .pointer (some ⟨x0.heap.size, 0, none⟩) := hout (.tmp 3) rfl
              clear hdep hout
              refine .inl ⟨rfl, (Gives.val ?_ : Gives _ _ _ (.pointer (some ⟨x0.heap.size, 1, none⟩)) _)⟩
              go_simp
            rcases i with _ | i
            · obtain rfl := Option.some.inj ho
              have e3 : ρ (.tmp 19) = .pointer (some ⟨x0.heap.size, 1, none⟩) := (hdep ⟨3, .data⟩ (by simp) rfl).1 19 rfl
              clear hdep hout
              have kb := KY.out.later hBx
              have c0 := kb.c 0 _ rfl
              have c1 := kb.c 1 _ rfl
              have cl0 := kb.lt
              refine .inl ⟨rfl, (Gives.val ?_ : Gives _ _ _ (.slice (some ⟨g, o, none⟩) 3 cs) _)⟩
              go_simp
            rcases i with _ | i
            · obtain rfl := Option.some.inj ho
              have e4 : ρ (.tmp 20) = .slice (some ⟨g, o, none⟩) 3 cs := (hdep ⟨4, .data⟩ (by simp) rfl).1 20 rfl
              have ocn : ∀ v, ρ (.const v) = v := fun v => hout (.const v) rfl
              clear hdep hout
              refine .inl ⟨rfl, (Gives.val ?_ : Gives _ _ _ (.pointer (some ⟨g, o, none⟩)) _)⟩
              go_simp
            rcases i with _ | i
            · obtain rfl := Option.some.inj ho
              have e5 : ρ (.tmp 21) = .pointer (some ⟨g, o, none⟩) := (hdep ⟨5, .data⟩ (by simp) rfl).1 21 rfl
              clear hdep hout
              have hbz := (HY.out.trans (hBx.mono HY.out.size))
              have m0 := (hbz.cell (p := ⟨g, o, none⟩) hgx).trans z0
              have m1 := (hbz.cell (p := ⟨g, o + 1, none⟩) hgx).trans z1
              have m2 := (hbz.cell (p := ⟨g, o + 2, none⟩) hgx).trans z2
              have m3 := (hbz.cell (p := ⟨g, o + 3, none⟩) hgx).trans z3
              have m4 := (hbz.cell (p := ⟨g, o + 4, none⟩) hgx).trans z4
              refine .inl ⟨rfl, (Gives.val ?_ : Gives _ _ _ (.agg #[.bool r0.o.1, .int .i64 r0.o.2.1, .int .i64 r0.o.2.2, .slice p3 r0.ns c3, .slice p4 r0.nc c4]) _)⟩
              go_simp
            rcases i with _ | i
            · obtain rfl := Option.some.inj ho
              have e0 : ρ (.tmp 16) = .slice pp pn cp := (hdep ⟨0, .data⟩ (by simp) rfl).1 16 rfl
              have e2 : ρ (.tmp 18) = .int .i64 ↑k0 := (hdep ⟨2, .data⟩ (by simp) rfl).1 18 rfl
              have e6 : ρ (.tmp 22) = .agg #[.bool r0.o.1, .int .i64 r0.o.2.1, .int .i64 r0.o.2.2, .slice p3 r0.ns c3, .slice p4 r0.nc c4] := (hdep ⟨6, .data⟩ (by simp) rfl).1 22 rfl
              have ofn : ∀ f, ρ (.func f) = .func (.func f) #[] #[] := fun f => hout (.func f) rfl
              clear hdep hout
              refine .inl ⟨?_, ?_⟩
              · rfl
              show Gives _ _ _ (.bool true) _
              refine Gives.call (HR0.out _ hb0 x (HY.out.trans (hBx.mono HY.out.size))) ?_
              go_simp
            rcases i with _ | i
            · obtain rfl := Option.some.inj ho
              have e7 : ρ (.tmp 23) = .bool true := (hdep ⟨7, .data⟩ (by simp) rfl).1 23 rfl
              clear hdep hout
              refine .inl ⟨rfl, (Gives.val ?_ : Gives _ _ _ (.bool true) _)⟩
              go_simp
            rcases i with _ | i
            · obtain rfl := Option.some.inj ho
              have o0 : ρ (.tmp 0) = .slice pp pn cp := hout (.tmp 0) rfl
              have yg : y 8 = some true := (hdep ⟨8, .guard⟩ (by simp) rfl).2 24 rfl
              clear hdep hout
              refine .inl ⟨(by show (y 8 == some true) = true; rw [yg]; rfl), (Gives.val ?_ : Gives _ _ _ (.slice pp pn cp) _)⟩
              go_simp
            rcases i with _ | i
            · obtain rfl := Option.some.inj ho
              have o3 : ρ (.tmp 3) = .pointer (some ⟨x0.heap.size, 0, none⟩) := hout (.tmp 3) rfl
              have yg : y 8 = some true := (hdep ⟨8, .guard⟩ (by simp) rfl).2 24 rfl
              clear hdep hout
              refine .inl ⟨(by show (y 8 == some true) = true; rw [yg]; rfl), (Gives.val ?_ : Gives _ _ _ (.pointer (some ⟨x0.heap.size, 0, none⟩)) _)⟩
              go_simp
            rcases i with _ | i
            · obtain rfl := Option.some.inj ho
              have e10 : ρ (.tmp 26) = .pointer (some ⟨x0.heap.size, 0, none⟩) := (hdep ⟨10, .data⟩ (by simp) rfl).1 26 rfl
              have yg : y 8 = some true := (hdep ⟨8, .guard⟩ (by simp) rfl).2 24 rfl
              clear hdep hout
              have kb := KY.out.later hBx
              have c0 := kb.c 0 _ rfl
              have c1 := kb.c 1 _ rfl
              have cl0 := kb.lt
              refine .inl ⟨(by show (y 8 == some true) = true; rw [yg]; rfl), (Gives.val ?_ : Gives _ _ _ (.int .i64 ↑k0) _)⟩
              go_simp
            rcases i with _ | i
            · obtain rfl := Option.some.inj ho
              have o3 : ρ (.tmp 3) = .pointer (some ⟨x0.heap.size, 0, none⟩) := hout (.tmp 3) rfl
              have yg : y 8 = some true := (hdep ⟨8, .guard⟩ (by simp) rfl).2 24 rfl
              clear hdep hout
              refine .inl ⟨(by show (y 8 == some true) = true; rw [yg]; rfl), (Gives.val ?_ : Gives _ _ _ (.pointer (some ⟨x0.heap.size, 1, none⟩)) _)⟩
              go_simp
            rcases i with _ | i
            · obtain rfl := Option.some.inj ho
              have e12 : ρ (.tmp 28) = .pointer (some ⟨x0.heap.size, 1, none⟩) := (hdep ⟨12, .data⟩ (by simp) rfl).1 28 rfl
              have yg : y 8 = some true := (hdep ⟨8, .guard⟩ (by simp) rfl).2 24 rfl
              clear hdep hout
              have kb := KY.out.later hBx
              have c0 := kb.c 0 _ rfl
              have c1 := kb.c 1 _ rfl
              have cl0 := kb.lt
              refine .inl ⟨(by show (y 8 == some true) = true; rw [yg]; rfl), (Gives.val ?_ : Gives _ _ _ (.slice (some ⟨g, o, none⟩) 3 cs) _)⟩
              go_simp
            rcases i with _ | i
            · obtain rfl := Option.some.inj ho
              have e13 : ρ (.tmp 29) = .slice (some ⟨g, o, none⟩) 3 cs := (hdep ⟨13, .data⟩ (by simp) rfl).1 29 rfl
              have yg : y 8 = some true := (hdep ⟨8, .guard⟩ (by simp) rfl).2 24 rfl
              have ocn : ∀ v, ρ (.const v) = v := fun v => hout (.const v) rfl
              clear hdep hout
              refine .inl ⟨(by show (y 8 == some true) = true; rw [yg]; rfl), (Gives.val ?_ : Gives _ _ _ (.pointer (some ⟨g, o + 5, none⟩)) _)⟩
              go_simp
            rcases i with _ | i
            · obtain rfl := Option.some.inj ho
              have e14 : ρ (.tmp 30) = .pointer (some ⟨g, o + 5, none⟩) := (hdep ⟨14, .data⟩ (by simp) rfl).1 30 rfl
              have yg : y 8 = some true := (hdep ⟨8, .guard⟩ (by simp) rfl).2 24 rfl
              clear hdep hout
              have hbz := (HY.out.trans (hBx.mono HY.out.size))
              have m0 := (hbz.cell (p := ⟨g, o + 5, none⟩) hgx).trans y0
              have m1 := (hbz.cell (p := ⟨g, o + 6, none⟩) hgx).trans y1
              have m2 := (hbz.cell (p := ⟨g, o + 7, none⟩) hgx).trans y2
              have m3 := (hbz.cell (p := ⟨g, o + 8, none⟩) hgx).trans y3
              have m4 := (hbz.cell (p := ⟨g, o + 9, none⟩) hgx).trans y4
              refine .inl ⟨(by show (y 8 == some true) = true; rw [yg]; rfl), (Gives.val ?_ : Gives _ _ _ (.agg #[.bool r1.o.1, .int .i64 r1.o.2.1, .int .i64 r1.o.2.2, .slice q3 r1.ns d3, .slice q4 r1.nc d4]) _)⟩
              go_simp
            rcases i with _ | i
            · obtain rfl := Option.some.inj ho
              have e9 : ρ (.tmp 25) = .slice pp pn cp := (hdep ⟨9, .data⟩ (by simp) rfl).1 25 rfl
              have e11 : ρ (.tmp 27) = .int .i64 ↑k0 := (hdep ⟨11, .data⟩ (by simp) rfl).1 27 rfl
              have e15 : ρ (.tmp 31) = .agg #[.bool r1.o.1, .int .i64 r1.o.2.1, .int .i64 r1.o.2.2, .slice q3 r1.ns d3, .slice q4 r1.nc d4] := (hdep ⟨15, .data⟩ (by simp) rfl).1 31 rfl
              have yg : y 8 = some true := (hdep ⟨8, .guard⟩ (by simp) rfl).2 24 rfl
              have ofn : ∀ f, ρ (.func f) = .func (.func f) #[] #[] := fun f => hout (.func f) rfl
              clear hdep hout
              refine .inl ⟨?_, ?_⟩
              · show (y 8 == some true) = true
                rw [yg]; rfl
              show Gives _ _ _ (.bool false) _
              refine Gives.call (HR1.out _ hb1 x (HY.out.trans (hBx.mono HY.out.size))) ?_
              go_simp
            rcases i with _ | i
            · obtain rfl := Option.some.inj ho
              have e8 : ρ (.tmp 24) = .bool true := (hdep ⟨8, .data⟩ (by simp) rfl).1 24 rfl
              have e16 : ρ (.tmp 32) = .bool false := (hdep ⟨16, .data⟩ (by simp) rfl).1 32 rfl
              have ocn : ∀ v, ρ (.const v) = v := fun v => hout (.const v) rfl
              clear hdep hout
              refine .inl ⟨rfl, (Gives.val ?_ : Gives _ _ _ (.bool false) _)⟩
              go_simp
            rcases i with _ | i
            · obtain rfl := Option.some.inj ho
              have e17 : ρ (.tmp 33) = .bool false := (hdep ⟨17, .data⟩ (by simp) rfl).1 33 rfl
              clear hdep hout
              refine .inl ⟨rfl, (Gives.val ?_ : Gives _ _ _ (.bool false) _)⟩
              go_simp
            rcases i with _ | i
            · obtain rfl := Option.some.inj ho
              have yg : y 18 = some false := (hdep ⟨18, .guard⟩ (by simp) rfl).2 34 rfl
              exact .inr ⟨by show (y 18 == some true) = false; rw [yg]; rfl, rfl⟩
            rcases i with _ | i
            · obtain rfl := Option.some.inj ho
              have yg : y 18 = some false := (hdep ⟨18, .guard⟩ (by simp) rfl).2 34 rfl
              exact .inr ⟨by show (y 18 == some true) = false; rw [yg]; rfl, rfl⟩
            rcases i with _ | i
            · obtain rfl := Option.some.inj ho
              have yg : y 18 = some false := (hdep ⟨18, .guard⟩ (by simp) rfl).2 34 rfl
              exact .inr ⟨by show (y 18 == some true) = false; rw [yg]; rfl, rfl⟩
            rcases i with _ | i
            · obtain rfl := Option.some.inj ho
              have yg : y 18 = some false := (hdep ⟨18, .guard⟩ (by simp) rfl).2 34 rfl
              exact .inr ⟨by show (y 18 == some true) = false; rw [yg]; rfl, rfl⟩
            rcases i with _ | i
            · obtain rfl := Option.some.inj ho
              have yg : y 18 = some false := (hdep ⟨18, .guard⟩ (by simp) rfl).2 34 rfl
              exact .inr ⟨by show (y 18 == some true) = false; rw [yg]; rfl, rfl⟩
            rcases i with _ | i
            · obtain rfl := Option.some.inj ho
              have yg : y 18 = some false := (hdep ⟨18, .guard⟩ (by simp) rfl).2 34 rfl
              exact .inr ⟨by show (y 18 == some true) = false; rw [yg]; rfl, rfl⟩
            rcases i with _ | i
            · obtain rfl := Option.some.inj ho
              have yg : y 18 = some false := (hdep ⟨18, .guard⟩ (by simp) rfl).2 34 rfl
              exact .inr ⟨by show (y 18 == some true) = false; rw [yg]; rfl, rfl⟩
            rcases i with _ | i
            · obtain rfl := Option.some.inj ho
              have yg : y 18 = some false := (hdep ⟨18, .guard⟩ (by simp) rfl).2 34 rfl
              exact .inr ⟨by show (y 18 == some true) = false; rw [yg]; rfl, rfl⟩
            rcases i with _ | i
            · obtain rfl := Option.some.inj ho
              have e18 : ρ (.tmp 34) = .bool false := (hdep ⟨18, .data⟩ (by simp) rfl).1 34 rfl
              have e26 : ρ (.tmp 42) = undef := (hdep ⟨26, .data⟩ (by simp) rfl).1 42 rfl
              have ocn : ∀ v, ρ (.const v) = v := fun v => hout (.const v) rfl
              clear hdep hout
              refine .inl ⟨rfl, (Gives.val ?_ : Gives _ _ _ (.bool false) _)⟩
              go_simp
            rcases i with _ | i
            · obtain rfl := Option.some.inj ho
              have e27 : ρ (.tmp 43) = .bool false := (hdep ⟨27, .data⟩ (by simp) rfl).1 43 rfl
              clear hdep hout
              refine .inl ⟨rfl, (Gives.val ?_ : Gives _ _ _ (.bool false) _)⟩
              go_simp
            cases ho
          case fin =>
            intro x hBx
            have hBf := (HY.out.trans (hBx.mono HY.out.size))
            go_wp2_with fail
            go_ret
            exact ⟨ret_bool (by rw [HV2.out]), hBf⟩
        · generalize hb2 : rowF P k0 (callsQ P k0) r2 = b2
          have HV := HF3.out _ _ _ hb0 hb1 hb2
          have HV2 : Hid (F = b2) := by show _ = _; rw [HV]; rfl
          clear HV HF3
          refine wp_region_vals (by kernel_rfl) (by kernel_rfl) (by kernel_rfl) (by kernel_rfl) (fun j => [.slice pp pn cp, .pointer (some ⟨x0.heap.size, 0, none⟩), .int .i64 ↑k0, .pointer (some ⟨x0.heap.size, 1, none⟩), .slice (some ⟨g, o, none⟩) 3 cs, .pointer (some ⟨g, o, none⟩), .agg #[.bool r0.o.1, .int .i64 r0.o.2.1, .int .i64 r0.o.2.2, .slice p3 r0.ns c3, .slice p4 r0.nc c4], .bool true, .bool true, .slice pp pn cp, .pointer (some ⟨x0.heap.size, 0, none⟩), .int .i64 ↑k0, .pointer (some ⟨x0.heap.size, 1, none⟩), .slice (some ⟨g, o, none⟩) 3 cs, .pointer (some ⟨g, o + 5, none⟩), .agg #[.bool r1.o.1, .int .i64 r1.o.2.1, .int .i64 r1.o.2.2, .slice q3 r1.ns d3, .slice q4 r1.nc d4], .bool true, .bool true, .bool true, .slice pp pn cp, .pointer (some ⟨x0.heap.size, 0, none⟩), .int .i64 ↑k0, .pointer (some ⟨x0.heap.size, 1, none⟩), .slice (some ⟨g, o, none⟩) 3 cs, .pointer (some ⟨g, o + 10, none⟩), .agg #[.bool r2.o.1, .int .i64 r2.o.2.1, .int .i64 r2.o.2.2, .slice s3 r2.ns e3, .slice s4 r2.nc e4], .bool b2, .bool b2, .bool b2].getD j undef) y (Below.drew (Below.refl _ _)) ?step ⟨#[.slice pp pn cp, .agg #[.int .i64 ↑k0, .slice (some ⟨g, o, none⟩) 3 cs], undef, .pointer (some ⟨x0.heap.size, 0, none⟩), .bool b2, .slice pp pn cp, .pointer (some ⟨x0.heap.size, 0, none⟩), .int .i64 ↑k0, .bool true, .bool false, .bool false, .pointer (some ⟨x0.heap.size, 1, none⟩), .slice (some ⟨g, o, none⟩) 3 cs, .int .i64 3, .bool false, .bool false, .slice pp pn cp, .pointer (some ⟨x0.heap.size, 0, none⟩), .int .i64 ↑k0, .pointer (some ⟨x0.heap.size, 1, none⟩), .slice (some ⟨g, o, none⟩) 3 cs, .pointer (some ⟨g, o, none⟩), .agg #[.bool r0.o.1, .int .i64 r0.o.2.1, .int .i64 r0.o.2.2, .slice p3 r0.ns c3, .slice p4 r0.nc c4], .bool true, .bool true, .slice pp pn cp, .pointer (some ⟨x0.heap.size, 0, none⟩), .int .i64 ↑k0, .pointer (some ⟨x0.heap.size, 1, none⟩), .slice (some ⟨g, o, none⟩) 3 cs, .pointer (some ⟨g, o + 5, none⟩), .agg #[.bool r1.o.1, .int .i64 r1.o.2.1, .int .i64 r1.o.2.2, .slice q3 r1.ns d3, .slice q4 r1.nc d4], .bool true, .bool true, .bool true, .slice pp pn cp, .pointer (some ⟨x0.heap.size, 0, none⟩), .int .i64 ↑k0, .pointer (some ⟨x0.heap.size, 1, none⟩), .slice (some ⟨g, o, none⟩) 3 cs, .pointer (some ⟨g, o + 10, none⟩), .agg #[.bool r2.o.1, .int .i64 r2.o.2.1, .int .i64 r2.o.2.2, .slice s3 r2.ns e3, .slice s4 r2.nc e4], .bool b2, .bool b2], []⟩ (by kernel_rfl) ?fin
          case step =>
            intro i o ho ρ y x hBx hdep hout
            rcases i with _ | i
            · obtain rfl := Option.some.inj ho
              have o0 : ρ (.tmp 0) = .slice pp pn cp := hout (.tmp 0) rfl
              clear hdep hout
              refine .inl ⟨rfl, (Gives.val ?_ : Gives _ _ _ (.slice pp pn cp) _)⟩
              go_simp
            rcases i with _ | i
            · obtain rfl := Option.some.inj ho
              have o3 : ρ (.tmp 3) = .pointer (some ⟨x0.heap.size, 0, none⟩) := hout (.tmp 3) rfl
              clear hdep hout
              refine .inl ⟨rfl, (Gives.val ?_ : Gives _ _ _ (.pointer (some ⟨x0.heap.size, 0, none⟩)) _)⟩
              go_simp
            rcases i with _ | i
            · obtain rfl := Option.some.inj ho
              have e1 : ρ (.tmp 17) = .pointer (some ⟨x0.heap.size, 0, none⟩) := (hdep ⟨1, .data⟩ (by simp) rfl).1 17 rfl
              clear hdep hout
              have kb := KY.out.later hBx
              have c0 := kb.c 0 _ rfl
              have c1 := kb.c 1 _ rfl
              have cl0 := kb.lt
              refine .inl ⟨rfl, (Gives.val ?_ : Gives _ _ _ (.int .i64 ↑k0) _)⟩
              go_simp
            rcases i with _ | i
            · obtain rfl := Option.some.inj ho
              have o3 : ρ (.tmp 3) = .pointer (some ⟨x0.heap.size, 0, none⟩) := hout (.tmp 3) rfl
              clear hdep hout
              refine .inl ⟨rfl, (Gives.val ?_ : Gives _ _ _ (.pointer (some ⟨x0.heap.size, 1, none⟩)) _)⟩
              go_simp
            rcases i with _ | i
            · obtain rfl := Option.some.inj ho
              have e3 : ρ (.tmp 19) = .pointer (some ⟨x0.heap.size, 1, none⟩) := (hdep ⟨3, .data⟩ (by simp) rfl).1 19 rfl
              clear hdep hout
              have kb := KY.out.later hBx
              have c0 := kb.c 0 _ rfl
              have c1 := kb.c 1 _ rfl
              have cl0 := kb.lt
              refine .inl ⟨rfl, (Gives.val ?_ : Gives _ _ _ (.slice (some ⟨g, o, none⟩) 3 cs) _)⟩
              go_simp
            rcases i with _ | i
            · obtain rfl := Option.some.inj ho
              have e4 : ρ (.tmp 20) = .slice (some ⟨g, o, none⟩) 3 cs := (hdep ⟨4, .data⟩ (by simp) rfl).1 20 rfl
              have ocn : ∀ v, ρ (.const v) = v := fun v => hout (.const v) rfl
              clear hdep hout
              refine .inl ⟨rfl, (Gives.val ?_ : Gives _ _ _ (.pointer (some ⟨g, o, none⟩)) _)⟩
              go_simp
            rcases i with _ | i
            · obtain rfl := Option.some.inj ho
              have e5 : ρ (.tmp 21) = .pointer (some ⟨g, o, none⟩) := (hdep ⟨5, .data⟩ (by simp) rfl).1 21 rfl
              clear hdep hout
              have hbz := (HY.out.trans (hBx.mono HY.out.size))
              have m0 := (hbz.cell (p := ⟨g, o, none⟩) hgx).trans z0
              have m1 := (hbz.cell (p := ⟨g, o + 1, none⟩) hgx).trans z1
              have m2 := (hbz.cell (p := ⟨g, o + 2, none⟩) hgx).trans z2
              have m3 := (hbz.cell (p := ⟨g, o + 3, none⟩) hgx).trans z3
              have m4 := (hbz.cell (p := ⟨g, o + 4, none⟩) hgx).trans z4
              refine .inl ⟨rfl, (Gives.val ?_ : Gives _ _ _ (.agg #[.bool r0.o.1, .int .i64 r0.o.2.1, .int .i64 r0.o.2.2, .slice p3 r0.ns c3, .slice p4 r0.nc c4]) _)⟩
              go_simp
            rcases i with _ | i
            · obtain rfl := Option.some.inj ho
              have e0 : ρ (.tmp 16) = .slice pp pn cp := (hdep ⟨0, .data⟩ (by simp) rfl).1 16 rfl
              have e2 : ρ (.tmp 18) = .int .i64 ↑k0 := (hdep ⟨2, .data⟩ (by simp) rfl).1 18 rfl
              have e6 : ρ (.tmp 22) = .agg #[.bool r0.o.1, .int .i64 r0.o.2.1, .int .i64 r0.o.2.2, .slice p3 r0.ns c3, .slice p4 r0.nc c4] := (hdep ⟨6, .data⟩ (by simp) rfl).1 22 rfl
              have ofn : ∀ f, ρ (.func f) = .func (.func f) #[] #[] := fun f => hout (.func f) rfl
              clear hdep hout
              refine .inl ⟨?_, ?_⟩
              · rfl
              show Gives _ _ _ (.bool true) _
              refine Gives.call (HR0.out _ hb0 x (HY.out.trans (hBx.mono HY.out.size))) ?_
              go_simp
            rcases i with _ | i
            · obtain rfl := Option.some.inj ho
              have e7 : ρ (.tmp 23) = .bool true := (hdep ⟨7, .data⟩ (by simp) rfl).1 23 rfl
              clear hdep hout
              refine .inl ⟨rfl, (Gives.val ?_ : Gives _ _ _ (.bool true) _)⟩
              go_simp
            rcases i with _ | i
            · obtain rfl := Option.some.inj ho
              have o0 : ρ (.tmp 0) = .slice pp pn cp := hout (.tmp 0) rfl
              have yg : y 8 = some true := (hdep ⟨8, .guard⟩ (by simp) rfl).2 24 rfl
              clear hdep hout
              refine .inl ⟨(by show (y 8 == some true) = true; rw [yg]; rfl), (Gives.val ?_ : Gives _ _ _ (.slice pp pn cp) _)⟩
              go_simp
            rcases i with _ | i
            · obtain rfl := Option.some.inj ho
              have o3 : ρ (.tmp 3) = .pointer (some ⟨x0.heap.size, 0, none⟩) := hout (.tmp 3) rfl
              have yg : y 8 = some true := (hdep ⟨8, .guard⟩ (by simp) rfl).2 24 rfl
              clear hdep hout
              refine .inl ⟨(by show (y 8 == some true) = true; rw [yg]; rfl), (Gives.val ?_ : Gives _ _ _ (.pointer (some ⟨x0.heap.size, 0, none⟩)) _)⟩
              go_simp
            rcases i with _ | i
            · obtain rfl := Option.some.inj ho
              have e10 : ρ (.tmp 26) = .pointer (some ⟨x0.heap.size, 0, none⟩) := (hdep ⟨10, .data⟩ (by simp) rfl).1 26 rfl
              have yg : y 8 = some true := (hdep ⟨8, .guard⟩ (by simp) rfl).2 24 rfl
              clear hdep hout
              have kb := KY.out.later hBx
              have c0 := kb.c 0 _ rfl
              have c1 := kb.c 1 _ rfl
              have cl0 := kb.lt
              refine .inl ⟨(by show (y 8 == some true) = true; rw [yg]; rfl), (Gives.val ?_ : Gives _ _ _ (.int .i64 ↑k0) _)⟩
              go_simp
            rcases i with _ | i
            · obtain rfl := Option.some.inj ho
              have o3 : ρ (.tmp 3) = .pointer (some ⟨x0.heap.size, 0, none⟩) := hout (.tmp 3) rfl
              have yg : y 8 = some true := (hdep ⟨8, .guard⟩ (by simp) rfl).2 24 rfl
              clear hdep hout
              refine .inl ⟨(by show (y 8 == some true) = true; rw [yg]; rfl), (Gives.val ?_ : Gives _ _ _ (.pointer (some ⟨x0.heap.size, 1, none⟩)) _)⟩
              go_simp
            rcases i with _ | i
            · obtain rfl := Option.some.inj ho
              have e12 : ρ (.tmp 28) = .pointer (some ⟨x0.heap.size, 1, none⟩) := (hdep ⟨12, .data⟩ (by simp) rfl).1 28 rfl
              have yg : y 8 = some true := (hdep ⟨8, .guard⟩ (by simp) rfl).2 24 rfl
              clear hdep hout
              have kb := KY.out.later hBx
              have c0 := kb.c 0 _ rfl
              have c1 := kb.c 1 _ rfl
              have cl0 := kb.lt
              refine .inl ⟨(by show (y 8 == some true) = true; rw [yg]; rfl), (Gives.val ?_ : Gives _ _ _ (.slice (some ⟨g, o, none⟩) 3 cs) _)⟩
              go_simp
            rcases i with _ | i
            · obtain rfl := Option.some.inj ho
              have e13 : ρ (.tmp 29) = .slice (some ⟨g, o, none⟩) 3 cs := (hdep ⟨13, .data⟩ (by simp) rfl).1 29 rfl
              have yg : y 8 = some true := (hdep ⟨8, .guard⟩ (by simp) rfl).2 24 rfl
              have ocn : ∀ v, ρ (.const v) = v := fun v => hout (.const v) rfl
              clear hdep hout
              refine .inl ⟨(by show (y 8 == some true) = true; rw [yg]; rfl), (Gives.val ?_ : Gives _ _ _ (.pointer (some ⟨g, o + 5, none⟩)) _)⟩
              go_simp
            rcases i with _ | i
            · obtain rfl := Option.some.inj ho
              have e14 : ρ (.tmp 30) = .pointer (some ⟨g, o + 5, none⟩) := (hdep ⟨14, .data⟩ (by simp) rfl).1 30 rfl
              have yg : y 8 = some true := (hdep ⟨8, .guard⟩ (by simp) rfl).2 24 rfl
              clear hdep hout
              have hbz := (HY.out.trans (hBx.mono HY.out.size))
              have m0 := (hbz.cell (p := ⟨g, o + 5, none⟩) hgx).trans y0
              have m1 := (hbz.cell (p := ⟨g, o + 6, none⟩) hgx).trans y1
              have m2 := (hbz.cell (p := ⟨g, o + 7, none⟩) hgx).trans y2
              have m3 := (hbz.cell (p := ⟨g, o + 8, none⟩) hgx).trans y3
              have m4 := (hbz.cell (p := ⟨g, o + 9, none⟩) hgx).trans y4
              refine .inl ⟨(by show (y 8 == some true) = true; rw [yg]; rfl), (Gives.val ?_ : Gives _ _ _ (.agg #[.bool r1.o.1, .int .i64 r1.o.2.1, .int .i64 r1.o.2.2, .slice q3 r1.ns d3, .slice q4 r1.nc d4]) _)⟩
              go_simp
            rcases i with _ | i
            · obtain rfl := Option.some.inj ho
              have e9 : ρ (.tmp 25) = .slice pp pn cp := (hdep ⟨9, .data⟩ (by simp) rfl).1 25 rfl
              have e11 : ρ (.tmp 27) = .int .i64 ↑k0 := (hdep ⟨11, .data⟩ (by simp) rfl).1 27 rfl
              have e15 : ρ (.tmp 31) = .agg #[.bool r1.o.1, .int .i64 r1.o.2.1, .int .i64 r1.o.2.2, .slice q3 r1.ns d3, .slice q4 r1.nc d4] := (hdep ⟨15, .data⟩ (by simp) rfl).1 31 rfl
              have yg : y 8 = some true := (hdep ⟨8, .guard⟩ (by simp) rfl).2 24 rfl
              have ofn : ∀ f, ρ (.func f) = .func (.func f) #[] #[] := fun f => hout (.func f) rfl
              clear hdep hout
              refine .inl ⟨?_, ?_⟩
              · show (y 8 == some true) = true
                rw [yg]; rfl
              show Gives _ _ _ (.bool true) _
              refine Gives.call (HR1.out _ hb1 x (HY.out.trans (hBx.mono HY.out.size))) ?_
              go_simp
            rcases i with _ | i
            · obtain rfl := Option.some.inj ho
              have e8 : ρ (.tmp 24) = .bool true := (hdep ⟨8, .data⟩ (by simp) rfl).1 24 rfl
              have e16 : ρ (.tmp 32) = .bool true := (hdep ⟨16, .data⟩ (by simp) rfl).1 32 rfl
              have ocn : ∀ v, ρ (.const v) = v := fun v => hout (.const v) rfl
              clear hdep hout
              refine .inl ⟨rfl, (Gives.val ?_ : Gives _ _ _ (.bool true) _)⟩
              go_simp
            rcases i with _ | i
            · obtain rfl := Option.some.inj ho
              have e17 : ρ (.tmp 33) = .bool true := (hdep ⟨17, .data⟩ (by simp) rfl).1 33 rfl
              clear hdep hout
              refine .inl ⟨rfl, (Gives.val ?_ : Gives _ _ _ (.bool true) _)⟩
              go_simp
            rcases i with _ | i
            · obtain rfl := Option.some.inj ho
              have o0 : ρ (.tmp 0) = .slice pp pn cp := hout (.tmp 0) rfl
              have yg : y 18 = some true := (hdep ⟨18, .guard⟩ (by simp) rfl).2 34 rfl
              clear hdep hout
              refine .inl ⟨(by show (y 18 == some true) = true; rw [yg]; rfl), (Gives.val ?_ : Gives _ _ _ (.slice pp pn cp) _)⟩
              go_simp
            rcases i with _ | i
            · obtain rfl := Option.some.inj ho
              have o3 : ρ (.tmp 3) = .pointer (some ⟨x0.heap.size, 0, none⟩) := hout (.tmp 3) rfl
              have yg : y 18 = some true := (hdep ⟨18, .guard⟩ (by simp) rfl).2 34 rfl
              clear hdep hout
              refine .inl ⟨(by show (y 18 == some true) = true; rw [yg]; rfl), (Gives.val ?_ : Gives _ _ _ (.pointer (some ⟨x0.heap.size, 0, none⟩)) _)⟩
              go_simp
            rcases i with _ | i
            · obtain rfl := Option.some.inj ho
              have e20 : ρ (.tmp 36) = .pointer (some ⟨x0.heap.size, 0, none⟩) := (hdep ⟨20, .data⟩ (by simp) rfl).1 36 rfl
              have yg : y 18 = some true := (hdep ⟨18, .guard⟩ (by simp) rfl).2 34 rfl
              clear hdep hout
              have kb := KY.out.later hBx
              have c0 := kb.c 0 _ rfl
              have c1 := kb.c 1 _ rfl
              have cl0 := kb.lt
              refine .inl ⟨(by show (y 18 == some true) = true; rw [yg]; rfl), (Gives.val ?_ : Gives _ _ _ (.int .i64 ↑k0) _)⟩
              go_simp
            rcases i with _ | i
            · obtain rfl := Option.some.inj ho
              have o3 : ρ (.tmp 3) = .pointer (some ⟨x0.heap.size, 0, none⟩) := hout (.tmp 3) rfl
              have yg : y 18 = some true := (hdep ⟨18, .guard⟩ (by simp) rfl).2 34 rfl
              clear hdep hout
              refine .inl ⟨(by show (y 18 == some true) = true; rw [yg]; rfl), (Gives.val ?_ : Gives _ _ _ (.pointer (some ⟨x0.heap.size, 1, none⟩)) _)⟩
              go_simp
            rcases i with _ | i
            · obtain rfl := Option.some.inj ho
              have e22 : ρ (.tmp 38) = .pointer (some ⟨x0.heap.size, 1, none⟩) := (hdep ⟨22, .data⟩ (by simp) rfl).1 38 rfl
              have yg : y 18 = some true := (hdep ⟨18, .guard⟩ (by simp) rfl).2 34 rfl
              clear hdep hout
              have kb := KY.out.later hBx
              have c0 := kb.c 0 _ rfl
              have c1 := kb.c 1 _ rfl
              have cl0 := kb.lt
              refine .inl ⟨(by show (y 18 == some true) = true; rw [yg]; rfl), (Gives.val ?_ : Gives _ _ _ (.slice (some ⟨g, o, none⟩) 3 cs) _)⟩
              go_simp
            rcases i with _ | i
            · obtain rfl := Option.some.inj ho
              have e23 : ρ (.tmp 39) = .slice (some ⟨g, o, none⟩) 3 cs := (hdep ⟨23, .data⟩ (by simp) rfl).1 39 rfl
              have yg : y 18 = some true := (hdep ⟨18, .guard⟩ (by simp) rfl).2 34 rfl
              have ocn : ∀ v, ρ (.const v) = v := fun v => hout (.const v) rfl
              clear hdep hout
              refine .inl ⟨(by show (y 18 == some true) = true; rw [yg]; rfl), (Gives.val ?_ : Gives _ _ _ (.pointer (some ⟨g, o + 10, none⟩)) _)⟩
              go_simp
            rcases i with _ | i
            · obtain rfl := Option.some.inj ho
              have e24 : ρ (.tmp 40) = .pointer (some ⟨g, o + 10, none⟩) := (hdep ⟨24, .data⟩ (by simp) rfl).1 40 rfl
              have yg : y 18 = some true := (hdep ⟨18, .guard⟩ (by simp) rfl).2 34 rfl
              clear hdep hout
              have hbz := (HY.out.trans (hBx.mono HY.out.size))
              have m0 := (hbz.cell (p := ⟨g, o + 10, none⟩) hgx).trans x1
              have m1 := (hbz.cell (p := ⟨g, o + 11, none⟩) hgx).trans x2
              have m2 := (hbz.cell (p := ⟨g, o + 12, none⟩) hgx).trans x3
              have m3 := (hbz.cell (p := ⟨g, o + 13, none⟩) hgx).trans x4
              have m4 := (hbz.cell (p := ⟨g, o + 14, none⟩) hgx).trans x5
              refine .inl ⟨(by show (y 18 == some true) = true; rw [yg]; rfl), (Gives.val ?_ : Gives _ _ _ (.agg #[.bool r2.o.1, .int .i64 r2.o.2.1, .int .i64 r2.o.2.2, .slice s3 r2.ns e3, .slice s4 r2.nc e4]) _)⟩
              go_simp
            rcases i with _ | i
            · obtain rfl := Option.some.inj ho
              have e19 : ρ (.tmp 35) = .slice pp pn cp := (hdep ⟨19, .data⟩ (by simp) rfl).1 35 rfl
              have e21 : ρ (.tmp 37) = .int .i64 ↑k0 := (hdep ⟨21, .data⟩ (by simp) rfl).1 37 rfl
              have e25 : ρ (.tmp 41) = .agg #[.bool r2.o.1, .int .i64 r2.o.2.1, .int .i64 r2.o.2.2, .slice s3 r2.ns e3, .slice s4 r2.nc e4] := (hdep ⟨25, .data⟩ (by simp) rfl).1 41 rfl
              have yg : y 18 = some true := (hdep ⟨18, .guard⟩ (by simp) rfl).2 34 rfl
              have ofn : ∀ f, ρ (.func f) = .func (.func f) #[] #[] := fun f => hout (.func f) rfl
              clear hdep hout
              refine .inl ⟨?_, ?_⟩
              · show (y 18 == some true) = true
                rw [yg]; rfl
              show Gives _ _ _ (.bool b2) _
              refine Gives.call (HR2.out _ hb2 x (HY.out.trans (hBx.mono HY.out.size))) ?_
              go_simp
            rcases i with _ | i
            · obtain rfl := Option.some.inj ho
              have e18 : ρ (.tmp 34) = .bool true := (hdep ⟨18, .data⟩ (by simp) rfl).1 34 rfl
              have e26 : ρ (.tmp 42) = .bool b2 := (hdep ⟨26, .data⟩ (by simp) rfl).1 42 rfl
              have ocn : ∀ v, ρ (.const v) = v := fun v => hout (.const v) rfl
              clear hdep hout
              refine .inl ⟨rfl, (Gives.val ?_ : Gives _ _ _ (.bool b2) _)⟩
              go_simp
            rcases i with _ | i
            · obtain rfl := Option.some.inj ho
              have e27 : ρ (.tmp 43) = .bool b2 := (hdep ⟨27, .data⟩ (by simp) rfl).1 43 rfl
              clear hdep hout
              refine .inl ⟨rfl, (Gives.val ?_ : Gives _ _ _ (.bool b2) _)⟩
              go_simp
            cases ho
          case fin =>
            intro x hBx
            have hBf := (HY.out.trans (hBx.mono HY.out.size))
            go_wp2_with fail
            go_ret
            exact ⟨ret_bool (by rw [HV2.out]), hBf⟩
    · have h3i : ((rn : Int) != 3) = true := by
        rw [bne_iff_ne]; omega
      have HNO : Hid (F = false) := by show _ = _; rw [HF.out]; simp [h3]
      clear HF
      go_wp2_with fail
      go_ret
      exact ⟨ret_bool (by rw [HNO.out]), HY.out⟩

end Go.Proofs.YtlkebkajdlgebaaGreat

/-
  Whether sums are ok: the contract of the model's SumsOk.
-/
namespace Go.Proofs.YtlkebkajdlgebaaGreat
open Go.RowKit
set_option linter.unusedVariables false
set_option linter.unusedSimpArgs false

def sumG (P : List (List I4)) (M : List Sm) (j : Nat) : Bool := sumF P (callsQ P) (M.getD j sm0) && (decide (j = 0) || decide ((M.getD (j - 1) sm0).p < (M.getD j sm0).p))
theorem sumsF_eq (P : List (List I4)) (M : List Sm) : sumsF P (callsQ P) M = allB (sumG P M) M.length := by
  unfold sumsF
  refine (allB_next fun j => ?_).symm
  unfold sumG
  by_cases e : j = 0
  · simp [e]
  · unfold sumLt
    rw [cmpF_lt, show j - 1 + 1 = j by omega]

set_option maxRecDepth 100000 in
set_option maxHeartbeats 8000000 in
theorem sumsOk_spec (x0 : World) (B : Nat) (v : Value) (P : List (List I4)) (h : ProgAt x0 B v P) (M : List Sm) (u : Value) (hs : SmsAt x0 u M) :
    Calls Tryz.prog 16 #[v, u] x0 fun e y => e = .returned (.bool (progOkF P && sumsF P (callsQ P) M)) ∧ Below x0.heap.size x0 y := by
  rw [sumsF_eq]
  obtain ⟨pp, cp, rfl, _⟩ := h.shape
  obtain ⟨ps, cs, rfl, hm⟩ := hs.shape
  unfold maxLen at hm
  have hri : (M.length : Int) ≤ 9223372036854775807 := by omega
  obtain ⟨F, hF⟩ : ∃ F, (progOkF P && allB (sumG P M) M.length) = F := ⟨_, rfl⟩
  rw [hF]
  have HF : Hid ((progOkF P && allB (sumG P M) M.length) = F) := hF
  clear hF
  have HP : Hid (ProgAt x0 B (.slice pp P.length cp) P) := h
  have HS : Hid (SmsAt x0 (.slice ps M.length cs) M) := hs
  clear h hs hm
  generalize P.length = pn at *
  generalize hmn : M.length = mn at *
  have HMN : Hid (M.length = mn) := hmn
  clear hmn
  go_enter Tryz.func16, Tryz.ntmps16
  go_wp2_with fail
  refine (progOk_spec x0 B _ P HP.out).mono ?_
  rintro e y ⟨rfl, hb⟩
  have HY : Hid (Below x0.heap.size x0 y) := hb
  clear hb
  cases hok : progOkF P
  · have HNO : Hid (F = false) := by show _ = _; rw [← HF.out, hok]; rfl
    clear HF hok
    go_wp2_with fail
    go_ret
    exact ⟨ret_bool (by rw [HNO.out]), HY.out⟩
  have HOK : Hid (progOkF P = true) := hok
  have HF2 : Hid (F = allB (sumG P M) mn) := by show _ = _; rw [← HF.out, hok]; rfl
  clear HF hok
  go_wp2_with fail
  go_loopw [5] (fun i z => ∃ k : Nat, k ≤ mn ∧ i = .int .i64 k ∧ Hid (Below x0.heap.size x0 z) ∧ Hid (∀ j, j < k → sumG P M j = true)) (fun i _ => mn - (RowKit.intOf i).toNat)
  case atStart => exact ⟨0, by omega, rfl, HY.out, fun j hj => by omega⟩
  case round =>
    obtain ⟨k, hk, rfl, HB, hd⟩ := hrel
    by_cases hlt : k < mn
    · have hki : (k : Int) < (mn : Int) := by omega
      obtain ⟨g, o, rfl, hgx, hS⟩ := SmsAt.sum (p := ps) (cap := cs) (M := M) (j := k) (by have := HS.out; rw [HMN.out]; exact this) (by rw [HMN.out]; exact hlt)
      obtain ⟨q0, ⟨uR, q1, hR⟩⟩ := hS
      obtain ⟨pR, cR, rfl, _⟩ := hR.shape
      have HPV : Hid (∀ km, k = km + 1 → x0.cell? ⟨g, o + km * 2, none⟩ = some (.int .i64 (M.getD km sm0).p)) := fun km e => by
        obtain ⟨g', o', he, _, hS2⟩ := SmsAt.sum (p := some ⟨g, o, none⟩) (cap := cs) (M := M) (j := km) (by have := HS.out; rw [HMN.out]; exact this) (by rw [HMN.out]; omega)
        obtain ⟨rfl, rfl⟩ : g = g' ∧ o = o' := by injection he with e; injection e with e1 e2; exact ⟨e1, e2⟩
        exact hS2.c0
      have HFN : Hid (sumG P M k = false → F = false) := fun h => by rw [HF2.out, allB_no hlt h]
      have HI : Hid (sumG P M k = (sumF P (callsQ P) (M.getD k sm0) && (decide (k = 0) || decide ((M.getD (k - 1) sm0).p < (M.getD k sm0).p)))) := rfl
      generalize M.getD k sm0 = s at *
      have HSO : Hid (∀ b, sumF P (callsQ P) s = b → ∀ z : World, Below x0.heap.size x0 z → Calls Tryz.prog 9 #[.slice pp pn cp, .agg #[.int .i64 s.p, .slice pR s.R.length cR]] z fun e y => e = .returned (.bool b) ∧ Below z.heap.size z y) := fun b hb z hz => by
        have := sumOk_spec z B _ P (HP.out.later hz) s _ (hR.later hz)
        rw [HOK.out, hb, Bool.true_and] at this
        exact this
      clear hR HP HS
      go_wp2_with fail
      cases hb0 : sumF P (callsQ P) s
      · skip
        refine wp_region_vals (by kernel_rfl) (by kernel_rfl) (by kernel_rfl) (by kernel_rfl) (fun j => [.slice pp pn cp, .slice (some ⟨g, o, none⟩) mn cs, .int .i64 ↑k, .pointer (some ⟨g, o + k * 2, none⟩), .agg #[.int .i64 s.p, .slice pR s.R.length cR], .bool false, .bool true, .bool true, undef, undef, undef, undef, undef, undef, undef, undef, undef, undef, undef, undef, undef, undef, undef, undef, .bool true].getD j undef) wr (Below.drew (Below.refl _ _)) ?step ⟨#[.slice pp pn cp, .slice (some ⟨g, o, none⟩) mn cs, undef, undef, u4, .int .i64 ↑k, .slice pp pn cp, .bool true, .bool false, .int .i64 ↑k, .slice (some ⟨g, o, none⟩) mn cs, .int .i64 ↑mn, .bool true, u13, u14, .slice pp pn cp, .slice (some ⟨g, o, none⟩) mn cs, .int .i64 ↑k, .pointer (some ⟨g, o + k * 2, none⟩), .agg #[.int .i64 s.p, .slice pR s.R.length cR], .bool false, .bool true, .bool true, undef, undef, undef, undef, undef, undef, undef, undef, undef, undef, undef, undef, undef, undef, undef, undef, .bool true], []⟩ (by kernel_rfl) ?fin
        case step =>
          intro i o ho ρ y x hBx hdep hout
          rcases i with _ | i
          · obtain rfl := Option.some.inj ho
            have o0 : ρ (.tmp 0) = .slice pp pn cp := hout (.tmp 0) rfl
            clear hdep hout
            refine .inl ⟨rfl, (Gives.val ?_ : Gives _ _ _ (.slice pp pn cp) _)⟩
            go_simp
          rcases i with _ | i
          · obtain rfl := Option.some.inj ho
            have o1 : ρ (.tmp 1) = .slice (some ⟨g, o, none⟩) mn cs := hout (.tmp 1) rfl
            clear hdep hout
            refine .inl ⟨rfl, (Gives.val ?_ : Gives _ _ _ (.slice (some ⟨g, o, none⟩) mn cs) _)⟩
            go_simp
          rcases i with _ | i
          · obtain rfl := Option.some.inj ho
            have o5 : ρ (.tmp 5) = .int .i64 ↑k := hout (.tmp 5) rfl
            clear hdep hout
            refine .inl ⟨rfl, (Gives.val ?_ : Gives _ _ _ (.int .i64 ↑k) _)⟩
            go_simp
          rcases i with _ | i
          · obtain rfl := Option.some.inj ho
            have e1 : ρ (.tmp 16) = .slice (some ⟨g, o, none⟩) mn cs := (hdep ⟨1, .data⟩ (by simp) rfl).1 16 rfl
            have e2 : ρ (.tmp 17) = .int .i64 ↑k := (hdep ⟨2, .data⟩ (by simp) rfl).1 17 rfl
            clear hdep hout
            refine .inl ⟨rfl, (Gives.val ?_ : Gives _ _ _ (.pointer (some ⟨g, o + k * 2, none⟩)) _)⟩
            go_simp
          rcases i with _ | i
          · obtain rfl := Option.some.inj ho
            have e3 : ρ (.tmp 18) = .pointer (some ⟨g, o + k * 2, none⟩) := (hdep ⟨3, .data⟩ (by simp) rfl).1 18 rfl
            clear hdep hout
            have hbz := (HB.out.trans (hBx.mono HB.out.size))
            have m0 := (hbz.cell (p := ⟨g, o + k * 2, none⟩) hgx).trans q0
            have m1 := (hbz.cell (p := ⟨g, o + k * 2 + 1, none⟩) hgx).trans q1
            refine .inl ⟨rfl, (Gives.val ?_ : Gives _ _ _ (.agg #[.int .i64 s.p, .slice pR s.R.length cR]) _)⟩
            go_simp
          rcases i with _ | i
          · obtain rfl := Option.some.inj ho
            have e0 : ρ (.tmp 15) = .slice pp pn cp := (hdep ⟨0, .data⟩ (by simp) rfl).1 15 rfl
            have e4 : ρ (.tmp 19) = .agg #[.int .i64 s.p, .slice pR s.R.length cR] := (hdep ⟨4, .data⟩ (by simp) rfl).1 19 rfl
            have ofn : ∀ f, ρ (.func f) = .func (.func f) #[] #[] := fun f => hout (.func f) rfl
            clear hdep hout
            refine .inl ⟨?_, ?_⟩
            · rfl
            show Gives _ _ _ (.bool false) _
            refine Gives.call (HSO.out _ hb0 x (HB.out.trans (hBx.mono HB.out.size))) ?_
            go_simp
          rcases i with _ | i
          · obtain rfl := Option.some.inj ho
            have e5 : ρ (.tmp 20) = .bool false := (hdep ⟨5, .data⟩ (by simp) rfl).1 20 rfl
            clear hdep hout
            refine .inl ⟨rfl, (Gives.val ?_ : Gives _ _ _ (.bool true) _)⟩
            go_simp
          rcases i with _ | i
          · obtain rfl := Option.some.inj ho
            have e6 : ρ (.tmp 21) = .bool true := (hdep ⟨6, .data⟩ (by simp) rfl).1 21 rfl
            clear hdep hout
            refine .inl ⟨rfl, (Gives.val ?_ : Gives _ _ _ (.bool true) _)⟩
            go_simp
          rcases i with _ | i
          · obtain rfl := Option.some.inj ho
            have yg : y 7 = some true := (hdep ⟨7, .guard⟩ (by simp) rfl).2 22 rfl
            exact .inr ⟨by show (y 7 == some false) = false; rw [yg]; rfl, rfl⟩
          rcases i with _ | i
          · obtain rfl := Option.some.inj ho
            have yg : y 7 = some true := (hdep ⟨7, .guard⟩ (by simp) rfl).2 22 rfl
            exact .inr ⟨by show (y 7 == some false) = false; rw [yg]; rfl, rfl⟩
          rcases i with _ | i
          · obtain rfl := Option.some.inj ho
            have yg : y 7 = some true := (hdep ⟨7, .guard⟩ (by simp) rfl).2 22 rfl
            exact .inr ⟨by show (y 7 == some false) = false; rw [yg]; rfl, rfl⟩
          rcases i with _ | i
          · obtain rfl := Option.some.inj ho
            have yg : y 10 = none := (hdep ⟨10, .guard⟩ (by simp) rfl).2 25 rfl
            exact .inr ⟨by show (y 10 == some true) = false; rw [yg]; rfl, rfl⟩
          rcases i with _ | i
          · obtain rfl := Option.some.inj ho
            have yg : y 10 = none := (hdep ⟨10, .guard⟩ (by simp) rfl).2 25 rfl
            exact .inr ⟨by show (y 10 == some true) = false; rw [yg]; rfl, rfl⟩
          rcases i with _ | i
          · obtain rfl := Option.some.inj ho
            have yg : y 10 = none := (hdep ⟨10, .guard⟩ (by simp) rfl).2 25 rfl
            exact .inr ⟨by show (y 10 == some true) = false; rw [yg]; rfl, rfl⟩
          rcases i with _ | i
          · obtain rfl := Option.some.inj ho
            have yg : y 10 = none := (hdep ⟨10, .guard⟩ (by simp) rfl).2 25 rfl
            exact .inr ⟨by show (y 10 == some true) = false; rw [yg]; rfl, rfl⟩
          rcases i with _ | i
          · obtain rfl := Option.some.inj ho
            have yg : y 10 = none := (hdep ⟨10, .guard⟩ (by simp) rfl).2 25 rfl
            exact .inr ⟨by show (y 10 == some true) = false; rw [yg]; rfl, rfl⟩
          rcases i with _ | i
          · obtain rfl := Option.some.inj ho
            have yg : y 10 = none := (hdep ⟨10, .guard⟩ (by simp) rfl).2 25 rfl
            exact .inr ⟨by show (y 10 == some true) = false; rw [yg]; rfl, rfl⟩
          rcases i with _ | i
          · obtain rfl := Option.some.inj ho
            have yg : y 10 = none := (hdep ⟨10, .guard⟩ (by simp) rfl).2 25 rfl
            exact .inr ⟨by show (y 10 == some true) = false; rw [yg]; rfl, rfl⟩
          rcases i with _ | i
          · obtain rfl := Option.some.inj ho
            have yg : y 10 = none := (hdep ⟨10, .guard⟩ (by simp) rfl).2 25 rfl
            exact .inr ⟨by show (y 10 == some true) = false; rw [yg]; rfl, rfl⟩
          rcases i with _ | i
          · obtain rfl := Option.some.inj ho
            have yg : y 10 = none := (hdep ⟨10, .guard⟩ (by simp) rfl).2 25 rfl
            exact .inr ⟨by show (y 10 == some true) = false; rw [yg]; rfl, rfl⟩
          rcases i with _ | i
          · obtain rfl := Option.some.inj ho
            have yg : y 10 = none := (hdep ⟨10, .guard⟩ (by simp) rfl).2 25 rfl
            exact .inr ⟨by show (y 10 == some true) = false; rw [yg]; rfl, rfl⟩
          rcases i with _ | i
          · obtain rfl := Option.some.inj ho
            have yg : y 10 = none := (hdep ⟨10, .guard⟩ (by simp) rfl).2 25 rfl
            exact .inr ⟨by show (y 10 == some true) = false; rw [yg]; rfl, rfl⟩
          rcases i with _ | i
          · obtain rfl := Option.some.inj ho
            have yg : y 10 = none := (hdep ⟨10, .guard⟩ (by simp) rfl).2 25 rfl
            exact .inr ⟨by show (y 10 == some true) = false; rw [yg]; rfl, rfl⟩
          rcases i with _ | i
          · obtain rfl := Option.some.inj ho
            have yg : y 7 = some true := (hdep ⟨7, .guard⟩ (by simp) rfl).2 22 rfl
            exact .inr ⟨by show (y 7 == some false) = false; rw [yg]; rfl, rfl⟩
          rcases i with _ | i
          · obtain rfl := Option.some.inj ho
            have e7 : ρ (.tmp 22) = .bool true := (hdep ⟨7, .data⟩ (by simp) rfl).1 22 rfl
            have e23 : ρ (.tmp 38) = undef := (hdep ⟨23, .data⟩ (by simp) rfl).1 38 rfl
            have ocn : ∀ v, ρ (.const v) = v := fun v => hout (.const v) rfl
            clear hdep hout
            refine .inl ⟨rfl, (Gives.val ?_ : Gives _ _ _ (.bool true) _)⟩
            go_simp
          cases ho
        case fin =>
          intro x hBx
          have hBf := (HB.out.trans (hBx.mono HB.out.size))
          go_wp2_with fail
          go_ret
          exact ⟨ret_bool (HFN.out (by rw [HI.out, hb0]; rfl)).symm, hBf⟩
      · by_cases hk0 : k = 0
        · have HK0 : Hid (k = 0) := hk0
          clear hk0
          refine wp_region_vals (by kernel_rfl) (by kernel_rfl) (by kernel_rfl) (by kernel_rfl) (fun j => [.slice pp pn cp, .slice (some ⟨g, o, none⟩) mn cs, .int .i64 ↑k, .pointer (some ⟨g, o + k * 2, none⟩), .agg #[.int .i64 s.p, .slice pR s.R.length cR], .bool true, .bool false, .bool false, .int .i64 ↑k, .bool false, .bool false, undef, undef, undef, undef, undef, undef, undef, undef, undef, undef, undef, undef, .bool false, .bool false].getD j undef) wr (Below.drew (Below.refl _ _)) ?step ⟨#[.slice pp pn cp, .slice (some ⟨g, o, none⟩) mn cs, undef, undef, u4, .int .i64 ↑k, .slice pp pn cp, .bool true, .bool false, .int .i64 ↑k, .slice (some ⟨g, o, none⟩) mn cs, .int .i64 ↑mn, .bool true, u13, u14, .slice pp pn cp, .slice (some ⟨g, o, none⟩) mn cs, .int .i64 ↑k, .pointer (some ⟨g, o + k * 2, none⟩), .agg #[.int .i64 s.p, .slice pR s.R.length cR], .bool true, .bool false, .bool false, .int .i64 ↑k, .bool false, .bool false, undef, undef, undef, undef, undef, undef, undef, undef, undef, undef, undef, undef, .bool false, .bool false], []⟩ (by kernel_rfl) ?fin
          case step =>
            intro i o ho ρ y x hBx hdep hout
            rcases i with _ | i
            · obtain rfl := Option.some.inj ho
              have o0 : ρ (.tmp 0) = .slice pp pn cp := hout (.tmp 0) rfl
              clear hdep hout
              refine .inl ⟨rfl, (Gives.val ?_ : Gives _ _ _ (.slice pp pn cp) _)⟩
              go_simp
            rcases i with _ | i
            · obtain rfl := Option.some.inj ho
              have o1 : ρ (.tmp 1) = .slice (some ⟨g, o, none⟩) mn cs := hout (.tmp 1) rfl
              clear hdep hout
              refine .inl ⟨rfl, (Gives.val ?_ : Gives _ _ _ (.slice (some ⟨g, o, none⟩) mn cs) _)⟩
              go_simp
            rcases i with _ | i
            · obtain rfl := Option.some.inj ho
              have o5 : ρ (.tmp 5) = .int .i64 ↑k := hout (.tmp 5) rfl
              clear hdep hout
              refine .inl ⟨rfl, (Gives.val ?_ : Gives _ _ _ (.int .i64 ↑k) _)⟩
              go_simp
            rcases i with _ | i
            · obtain rfl := Option.some.inj ho
              have e1 : ρ (.tmp 16) = .slice (some ⟨g, o, none⟩) mn cs := (hdep ⟨1, .data⟩ (by simp) rfl).1 16 rfl
              have e2 : ρ (.tmp 17) = .int .i64 ↑k := (hdep ⟨2, .data⟩ (by simp) rfl).1 17 rfl
              clear hdep hout
              refine .inl ⟨rfl, (Gives.val ?_ : Gives _ _ _ (.pointer (some ⟨g, o + k * 2, none⟩)) _)⟩
              go_simp
            rcases i with _ | i
            · obtain rfl := Option.some.inj ho
              have e3 : ρ (.tmp 18) = .pointer (some ⟨g, o + k * 2, none⟩) := (hdep ⟨3, .data⟩ (by simp) rfl).1 18 rfl
              clear hdep hout
              have hbz := (HB.out.trans (hBx.mono HB.out.size))
              have m0 := (hbz.cell (p := ⟨g, o + k * 2, none⟩) hgx).trans q0
              have m1 := (hbz.cell (p := ⟨g, o + k * 2 + 1, none⟩) hgx).trans q1
              refine .inl ⟨rfl, (Gives.val ?_ : Gives _ _ _ (.agg #[.int .i64 s.p, .slice pR s.R.length cR]) _)⟩
              go_simp
            rcases i with _ | i
            · obtain rfl := Option.some.inj ho
              have e0 : ρ (.tmp 15) = .slice pp pn cp := (hdep ⟨0, .data⟩ (by simp) rfl).1 15 rfl
              have e4 : ρ (.tmp 19) = .agg #[.int .i64 s.p, .slice pR s.R.length cR] := (hdep ⟨4, .data⟩ (by simp) rfl).1 19 rfl
              have ofn : ∀ f, ρ (.func f) = .func (.func f) #[] #[] := fun f => hout (.func f) rfl
              clear hdep hout
              refine .inl ⟨?_, ?_⟩
              · rfl
              show Gives _ _ _ (.bool true) _
              refine Gives.call (HSO.out _ hb0 x (HB.out.trans (hBx.mono HB.out.size))) ?_
              go_simp
            rcases i with _ | i
            · obtain rfl := Option.some.inj ho
              have e5 : ρ (.tmp 20) = .bool true := (hdep ⟨5, .data⟩ (by simp) rfl).1 20 rfl
              clear hdep hout
              refine .inl ⟨rfl, (Gives.val ?_ : Gives _ _ _ (.bool false) _)⟩
              go_simp
            rcases i with _ | i
            · obtain rfl := Option.some.inj ho
              have e6 : ρ (.tmp 21) = .bool false := (hdep ⟨6, .data⟩ (by simp) rfl).1 21 rfl
              clear hdep hout
              refine .inl ⟨rfl, (Gives.val ?_ : Gives _ _ _ (.bool false) _)⟩
              go_simp
            rcases i with _ | i
            · obtain rfl := Option.some.inj ho
              have o5 : ρ (.tmp 5) = .int .i64 ↑k := hout (.tmp 5) rfl
              have yg : y 7 = some false := (hdep ⟨7, .guard⟩ (by simp) rfl).2 22 rfl
              clear hdep hout
              refine .inl ⟨(by show (y 7 == some false) = true; rw [yg]; rfl), (Gives.val ?_ : Gives _ _ _ (.int .i64 ↑k) _)⟩
              go_simp
            rcases i with _ | i
            · obtain rfl := Option.some.inj ho
              have e8 : ρ (.tmp 23) = .int .i64 ↑k := (hdep ⟨8, .data⟩ (by simp) rfl).1 23 rfl
              have yg : y 7 = some false := (hdep ⟨7, .guard⟩ (by simp) rfl).2 22 rfl
              have ocn : ∀ v, ρ (.const v) = v := fun v => hout (.const v) rfl
              clear hdep hout
              refine .inl ⟨(by show (y 7 == some false) = true; rw [yg]; rfl), (Gives.val ?_ : Gives _ _ _ (.bool false) _)⟩
              (go_simp; exact HK0.out)
            rcases i with _ | i
            · obtain rfl := Option.some.inj ho
              have e9 : ρ (.tmp 24) = .bool false := (hdep ⟨9, .data⟩ (by simp) rfl).1 24 rfl
              have yg : y 7 = some false := (hdep ⟨7, .guard⟩ (by simp) rfl).2 22 rfl
              clear hdep hout
              refine .inl ⟨(by show (y 7 == some false) = true; rw [yg]; rfl), (Gives.val ?_ : Gives _ _ _ (.bool false) _)⟩
              go_simp
            rcases i with _ | i
            · obtain rfl := Option.some.inj ho
              have yg : y 10 = some false := (hdep ⟨10, .guard⟩ (by simp) rfl).2 25 rfl
              exact .inr ⟨by show (y 10 == some true) = false; rw [yg]; rfl, rfl⟩
            rcases i with _ | i
            · obtain rfl := Option.some.inj ho
              have yg : y 10 = some false := (hdep ⟨10, .guard⟩ (by simp) rfl).2 25 rfl
              exact .inr ⟨by show (y 10 == some true) = false; rw [yg]; rfl, rfl⟩
            rcases i with _ | i
            · obtain rfl := Option.some.inj ho
              have yg : y 10 = some false := (hdep ⟨10, .guard⟩ (by simp) rfl).2 25 rfl
              exact .inr ⟨by show (y 10 == some true) = false; rw [yg]; rfl, rfl⟩
            rcases i with _ | i
            · obtain rfl := Option.some.inj ho
              have yg : y 10 = some false := (hdep ⟨10, .guard⟩ (by simp) rfl).2 25 rfl
              exact .inr ⟨by show (y 10 == some true) = false; rw [yg]; rfl, rfl⟩
            rcases i with _ | i
            · obtain rfl := Option.some.inj ho
              have yg : y 10 = some false := (hdep ⟨10, .guard⟩ (by simp) rfl).2 25 rfl
              exact .inr ⟨by show (y 10 == some true) = false; rw [yg]; rfl, rfl⟩
            rcases i with _ | i
            · obtain rfl := Option.some.inj ho
              have yg : y 10 = some false := (hdep ⟨10, .guard⟩ (by simp) rfl).2 25 rfl
              exact .inr ⟨by show (y 10 == some true) = false; rw [yg]; rfl, rfl⟩
            rcases i with _ | i
            · obtain rfl := Option.some.inj ho
              have yg : y 10 = some false := (hdep ⟨10, .guard⟩ (by simp) rfl).2 25 rfl
              exact .inr ⟨by show (y 10 == some true) = false; rw [yg]; rfl, rfl⟩
            rcases i with _ | i
            · obtain rfl := Option.some.inj ho
              have yg : y 10 = some false := (hdep ⟨10, .guard⟩ (by simp) rfl).2 25 rfl
              exact .inr ⟨by show (y 10 == some true) = false; rw [yg]; rfl, rfl⟩
            rcases i with _ | i
            · obtain rfl := Option.some.inj ho
              have yg : y 10 = some false := (hdep ⟨10, .guard⟩ (by simp) rfl).2 25 rfl
              exact .inr ⟨by show (y 10 == some true) = false; rw [yg]; rfl, rfl⟩
            rcases i with _ | i
            · obtain rfl := Option.some.inj ho
              have yg : y 10 = some false := (hdep ⟨10, .guard⟩ (by simp) rfl).2 25 rfl
              exact .inr ⟨by show (y 10 == some true) = false; rw [yg]; rfl, rfl⟩
            rcases i with _ | i
            · obtain rfl := Option.some.inj ho
              have yg : y 10 = some false := (hdep ⟨10, .guard⟩ (by simp) rfl).2 25 rfl
              exact .inr ⟨by show (y 10 == some true) = false; rw [yg]; rfl, rfl⟩
            rcases i with _ | i
            · obtain rfl := Option.some.inj ho
              have yg : y 10 = some false := (hdep ⟨10, .guard⟩ (by simp) rfl).2 25 rfl
              exact .inr ⟨by show (y 10 == some true) = false; rw [yg]; rfl, rfl⟩
            rcases i with _ | i
            · obtain rfl := Option.some.inj ho
              have e10 : ρ (.tmp 25) = .bool false := (hdep ⟨10, .data⟩ (by simp) rfl).1 25 rfl
              have e22 : ρ (.tmp 37) = undef := (hdep ⟨22, .data⟩ (by simp) rfl).1 37 rfl
              have yg : y 7 = some false := (hdep ⟨7, .guard⟩ (by simp) rfl).2 22 rfl
              have ocn : ∀ v, ρ (.const v) = v := fun v => hout (.const v) rfl
              clear hdep hout
              refine .inl ⟨(by show (y 7 == some false) = true; rw [yg]; rfl), (Gives.val ?_ : Gives _ _ _ (.bool false) _)⟩
              go_simp
            rcases i with _ | i
            · obtain rfl := Option.some.inj ho
              have e7 : ρ (.tmp 22) = .bool false := (hdep ⟨7, .data⟩ (by simp) rfl).1 22 rfl
              have e23 : ρ (.tmp 38) = .bool false := (hdep ⟨23, .data⟩ (by simp) rfl).1 38 rfl
              have ocn : ∀ v, ρ (.const v) = v := fun v => hout (.const v) rfl
              clear hdep hout
              refine .inl ⟨rfl, (Gives.val ?_ : Gives _ _ _ (.bool false) _)⟩
              go_simp
            cases ho
          case fin =>
            intro x hBx
            have HBN : Hid (Below x0.heap.size x0 x) := (HB.out.trans (hBx.mono HB.out.size))
            clear HB hBx
            go_wp2_with fail
            go_roundw
            case rel =>
              refine ⟨k + 1, by omega, by go_num, HBN.out, fun j hj => ?_⟩
              rcases (by omega : j < k ∨ j = k) with h | rfl
              · exact hd.out j h
              · rw [HI.out, hb0]; simp [HK0.out]
            case measure => simp [RowKit.intOf]; omega
        · obtain ⟨km, hkm⟩ : ∃ km, k = km + 1 := ⟨k - 1, by omega⟩
          have p0 := HPV.out km hkm
          have hkmn : (km : Int) < (mn : Int) := by omega
          have HI2 : Hid (sumG P M k = decide ((M.getD km sm0).p < s.p)) := by show _ = _; rw [HI.out, hb0, show k - 1 = km by omega]; simp [hk0]
          have HKM : Hid (k = km + 1) := hkm
          clear hkm HI HPV hk0
          generalize (M.getD km sm0).p = T at *
          by_cases hge : T ≥ s.p
          · have hge2 : ¬ T < s.p := by omega
            refine wp_region_vals (by kernel_rfl) (by kernel_rfl) (by kernel_rfl) (by kernel_rfl) (fun j => [.slice pp pn cp, .slice (some ⟨g, o, none⟩) mn cs, .int .i64 ↑k, .pointer (some ⟨g, o + k * 2, none⟩), .agg #[.int .i64 s.p, .slice pR s.R.length cR], .bool true, .bool false, .bool false, .int .i64 ↑k, .bool true, .bool true, .slice (some ⟨g, o, none⟩) mn cs, .int .i64 ↑k, .int .i64 ↑km, .pointer (some ⟨g, o + km * 2, none⟩), .pointer (some ⟨g, o + km * 2, none⟩), .int .i64 T, .slice (some ⟨g, o, none⟩) mn cs, .int .i64 ↑k, .pointer (some ⟨g, o + k * 2, none⟩), .pointer (some ⟨g, o + k * 2, none⟩), .int .i64 s.p, .bool true, .bool true, .bool true].getD j undef) wr (Below.drew (Below.refl _ _)) ?step ⟨#[.slice pp pn cp, .slice (some ⟨g, o, none⟩) mn cs, undef, undef, u4, .int .i64 ↑k, .slice pp pn cp, .bool true, .bool false, .int .i64 ↑k, .slice (some ⟨g, o, none⟩) mn cs, .int .i64 ↑mn, .bool true, u13, u14, .slice pp pn cp, .slice (some ⟨g, o, none⟩) mn cs, .int .i64 ↑k, .pointer (some ⟨g, o + k * 2, none⟩), .agg #[.int .i64 s.p, .slice pR s.R.length cR], .bool true, .bool false, .bool false, .int .i64 ↑k, .bool true, .bool true, .slice (some ⟨g, o, none⟩) mn cs, .int .i64 ↑k, .int .i64 ↑km, .pointer (some ⟨g, o + km * 2, none⟩), .pointer (some ⟨g, o + km * 2, none⟩), .int .i64 T, .slice (some ⟨g, o, none⟩) mn cs, .int .i64 ↑k, .pointer (some ⟨g, o + k * 2, none⟩), .pointer (some ⟨g, o + k * 2, none⟩), .int .i64 s.p, .bool true, .bool true, .bool true], []⟩ (by kernel_rfl) ?fin
            case step =>
              intro i o ho ρ y x hBx hdep hout
              rcases i with _ | i
              · obtain rfl := Option.some.inj ho
                have o0 : ρ (.tmp 0) = .slice pp pn cp := hout (.tmp 0) rfl
                clear hdep hout
                refine .inl ⟨rfl, (Gives.val ?_ : Gives _ _ _ (.slice pp pn cp) _)⟩
                go_simp
              rcases i with _ | i
              · obtain rfl := Option.some.inj ho
                have o1 : ρ (.tmp 1) = .slice (some ⟨g, o, none⟩) mn cs := hout (.tmp 1) rfl
                clear hdep hout
                refine .inl ⟨rfl, (Gives.val ?_ : Gives _ _ _ (.slice (some ⟨g, o, none⟩) mn cs) _)⟩
                go_simp
              rcases i with _ | i
              · obtain rfl := Option.some.inj ho
                have o5 : ρ (.tmp 5) = .int .i64 ↑k := hout (.tmp 5) rfl
                clear hdep hout
                refine .inl ⟨rfl, (Gives.val ?_ : Gives _ _ _ (.int .i64 ↑k) _)⟩
                go_simp
              rcases i with _ | i
              · obtain rfl := Option.some.inj ho
                have e1 : ρ (.tmp 16) = .slice (some ⟨g, o, none⟩) mn cs := (hdep ⟨1, .data⟩ (by simp) rfl).1 16 rfl
                have e2 : ρ (.tmp 17) = .int .i64 ↑k := (hdep ⟨2, .data⟩ (by simp) rfl).1 17 rfl
                clear hdep hout
                refine .inl ⟨rfl, (Gives.val ?_ : Gives _ _ _ (.pointer (some ⟨g, o + k * 2, none⟩)) _)⟩
                go_simp
              rcases i with _ | i
              · obtain rfl := Option.some.inj ho
                have e3 : ρ (.tmp 18) = .pointer (some ⟨g, o + k * 2, none⟩) := (hdep ⟨3, .data⟩ (by simp) rfl).1 18 rfl
                clear hdep hout
                have hbz := (HB.out.trans (hBx.mono HB.out.size))
                have m0 := (hbz.cell (p := ⟨g, o + k * 2, none⟩) hgx).trans q0
                have m1 := (hbz.cell (p := ⟨g, o + k * 2 + 1, none⟩) hgx).trans q1
                refine .inl ⟨rfl, (Gives.val ?_ : Gives _ _ _ (.agg #[.int .i64 s.p, .slice pR s.R.length cR]) _)⟩
                go_simp
              rcases i with _ | i
              · obtain rfl := Option.some.inj ho
                have e0 : ρ (.tmp 15) = .slice pp pn cp := (hdep ⟨0, .data⟩ (by simp) rfl).1 15 rfl
                have e4 : ρ (.tmp 19) = .agg #[.int .i64 s.p, .slice pR s.R.length cR] := (hdep ⟨4, .data⟩ (by simp) rfl).1 19 rfl
                have ofn : ∀ f, ρ (.func f) = .func (.func f) #[] #[] := fun f => hout (.func f) rfl
                clear hdep hout
                refine .inl ⟨?_, ?_⟩
                · rfl
                show Gives _ _ _ (.bool true) _
                refine Gives.call (HSO.out _ hb0 x (HB.out.trans (hBx.mono HB.out.size))) ?_
                go_simp
              rcases i with _ | i
              · obtain rfl := Option.some.inj ho
                have e5 : ρ (.tmp 20) = .bool true := (hdep ⟨5, .data⟩ (by simp) rfl).1 20 rfl
                clear hdep hout
                refine .inl ⟨rfl, (Gives.val ?_ : Gives _ _ _ (.bool false) _)⟩
                go_simp
              rcases i with _ | i
              · obtain rfl := Option.some.inj ho
                have e6 : ρ (.tmp 21) = .bool false := (hdep ⟨6, .data⟩ (by simp) rfl).1 21 rfl
                clear hdep hout
                refine .inl ⟨rfl, (Gives.val ?_ : Gives _ _ _ (.bool false) _)⟩
                go_simp
              rcases i with _ | i
              · obtain rfl := Option.some.inj ho
                have o5 : ρ (.tmp 5) = .int .i64 ↑k := hout (.tmp 5) rfl
                have yg : y 7 = some false := (hdep ⟨7, .guard⟩ (by simp) rfl).2 22 rfl
                clear hdep hout
                refine .inl ⟨(by show (y 7 == some false) = true; rw [yg]; rfl), (Gives.val ?_ : Gives _ _ _ (.int .i64 ↑k) _)⟩
                go_simp
              rcases i with _ | i
              · obtain rfl := Option.some.inj ho
                have e8 : ρ (.tmp 23) = .int .i64 ↑k := (hdep ⟨8, .data⟩ (by simp) rfl).1 23 rfl
                have yg : y 7 = some false := (hdep ⟨7, .guard⟩ (by simp) rfl).2 22 rfl
                have ocn : ∀ v, ρ (.const v) = v := fun v => hout (.const v) rfl
                clear hdep hout
                refine .inl ⟨(by show (y 7 == some false) = true; rw [yg]; rfl), (Gives.val ?_ : Gives _ _ _ (.bool true) _)⟩
                (go_simp; have hkm := HKM.out; omega)
              rcases i with _ | i
              · obtain rfl := Option.some.inj ho
                have e9 : ρ (.tmp 24) = .bool true := (hdep ⟨9, .data⟩ (by simp) rfl).1 24 rfl
                have yg : y 7 = some false := (hdep ⟨7, .guard⟩ (by simp) rfl).2 22 rfl
                clear hdep hout
                refine .inl ⟨(by show (y 7 == some false) = true; rw [yg]; rfl), (Gives.val ?_ : Gives _ _ _ (.bool true) _)⟩
                go_simp
              rcases i with _ | i
              · obtain rfl := Option.some.inj ho
                have o1 : ρ (.tmp 1) = .slice (some ⟨g, o, none⟩) mn cs := hout (.tmp 1) rfl
                have yg : y 10 = some true := (hdep ⟨10, .guard⟩ (by simp) rfl).2 25 rfl
                clear hdep hout
                refine .inl ⟨(by show (y 10 == some true) = true; rw [yg]; rfl), (Gives.val ?_ : Gives _ _ _ (.slice (some ⟨g, o, none⟩) mn cs) _)⟩
                go_simp
              rcases i with _ | i
              · obtain rfl := Option.some.inj ho
                have o5 : ρ (.tmp 5) = .int .i64 ↑k := hout (.tmp 5) rfl
                have yg : y 10 = some true := (hdep ⟨10, .guard⟩ (by simp) rfl).2 25 rfl
                clear hdep hout
                refine .inl ⟨(by show (y 10 == some true) = true; rw [yg]; rfl), (Gives.val ?_ : Gives _ _ _ (.int .i64 ↑k) _)⟩
                go_simp
              rcases i with _ | i
              · obtain rfl := Option.some.inj ho
                have e12 : ρ (.tmp 27) = .int .i64 ↑k := (hdep ⟨12, .data⟩ (by simp) rfl).1 27 rfl
                have yg : y 10 = some true := (hdep ⟨10, .guard⟩ (by simp) rfl).2 25 rfl
                have ocn : ∀ v, ρ (.const v) = v := fun v => hout (.const v) rfl
                clear hdep hout
                refine .inl ⟨(by show (y 10 == some true) = true; rw [yg]; rfl), (Gives.val ?_ : Gives _ _ _ (.int .i64 ↑km) _)⟩
                (go_simp; have hkm := HKM.out; exact (IntWalk.i64_in _ (by omega)).trans (by omega))
              rcases i with _ | i
              · obtain rfl := Option.some.inj ho
                have e11 : ρ (.tmp 26) = .slice (some ⟨g, o, none⟩) mn cs := (hdep ⟨11, .data⟩ (by simp) rfl).1 26 rfl
                have e13 : ρ (.tmp 28) = .int .i64 ↑km := (hdep ⟨13, .data⟩ (by simp) rfl).1 28 rfl
                have yg : y 10 = some true := (hdep ⟨10, .guard⟩ (by simp) rfl).2 25 rfl
                clear hdep hout
                refine .inl ⟨(by show (y 10 == some true) = true; rw [yg]; rfl), (Gives.val ?_ : Gives _ _ _ (.pointer (some ⟨g, o + km * 2, none⟩)) _)⟩
                go_simp
              rcases i with _ | i
              · obtain rfl := Option.some.inj ho
                have e14 : ρ (.tmp 29) = .pointer (some ⟨g, o + km * 2, none⟩) := (hdep ⟨14, .data⟩ (by simp) rfl).1 29 rfl
                have yg : y 10 = some true := (hdep ⟨10, .guard⟩ (by simp) rfl).2 25 rfl
                clear hdep hout
                refine .inl ⟨(by show (y 10 == some true) = true; rw [yg]; rfl), (Gives.val ?_ : Gives _ _ _ (.pointer (some ⟨g, o + km * 2, none⟩)) _)⟩
                go_simp
              rcases i with _ | i
              · obtain rfl := Option.some.inj ho
                have e15 : ρ (.tmp 30) = .pointer (some ⟨g, o + km * 2, none⟩) := (hdep ⟨15, .data⟩ (by simp) rfl).1 30 rfl
                have yg : y 10 = some true := (hdep ⟨10, .guard⟩ (by simp) rfl).2 25 rfl
                clear hdep hout
                have hbz := (HB.out.trans (hBx.mono HB.out.size))
                have m0 := (hbz.cell (p := ⟨g, o + km * 2, none⟩) hgx).trans p0
                refine .inl ⟨(by show (y 10 == some true) = true; rw [yg]; rfl), (Gives.val ?_ : Gives _ _ _ (.int .i64 T) _)⟩
                go_simp
              rcases i with _ | i
              · obtain rfl := Option.some.inj ho
                have o1 : ρ (.tmp 1) = .slice (some ⟨g, o, none⟩) mn cs := hout (.tmp 1) rfl
                have yg : y 10 = some true := (hdep ⟨10, .guard⟩ (by simp) rfl).2 25 rfl
                clear hdep hout
                refine .inl ⟨(by show (y 10 == some true) = true; rw [yg]; rfl), (Gives.val ?_ : Gives _ _ _ (.slice (some ⟨g, o, none⟩) mn cs) _)⟩
                go_simp
              rcases i with _ | i
              · obtain rfl := Option.some.inj ho
                have o5 : ρ (.tmp 5) = .int .i64 ↑k := hout (.tmp 5) rfl
                have yg : y 10 = some true := (hdep ⟨10, .guard⟩ (by simp) rfl).2 25 rfl
                clear hdep hout
                refine .inl ⟨(by show (y 10 == some true) = true; rw [yg]; rfl), (Gives.val ?_ : Gives _ _ _ (.int .i64 ↑k) _)⟩
                go_simp
              rcases i with _ | i
              · obtain rfl := Option.some.inj ho
                have e17 : ρ (.tmp 32) = .slice (some ⟨g, o, none⟩) mn cs := (hdep ⟨17, .data⟩ (by simp) rfl).1 32 rfl
                have e18 : ρ (.tmp 33) = .int .i64 ↑k := (hdep ⟨18, .data⟩ (by simp) rfl).1 33 rfl
                have yg : y 10 = some true := (hdep ⟨10, .guard⟩ (by simp) rfl).2 25 rfl
                clear hdep hout
                refine .inl ⟨(by show (y 10 == some true) = true; rw [yg]; rfl), (Gives.val ?_ : Gives _ _ _ (.pointer (some ⟨g, o + k * 2, none⟩)) _)⟩
                go_simp
              rcases i with _ | i
              · obtain rfl := Option.some.inj ho
                have e19 : ρ (.tmp 34) = .pointer (some ⟨g, o + k * 2, none⟩) := (hdep ⟨19, .data⟩ (by simp) rfl).1 34 rfl
                have yg : y 10 = some true := (hdep ⟨10, .guard⟩ (by simp) rfl).2 25 rfl
                clear hdep hout
                refine .inl ⟨(by show (y 10 == some true) = true; rw [yg]; rfl), (Gives.val ?_ : Gives _ _ _ (.pointer (some ⟨g, o + k * 2, none⟩)) _)⟩
                go_simp
              rcases i with _ | i
              · obtain rfl := Option.some.inj ho
                have e20 : ρ (.tmp 35) = .pointer (some ⟨g, o + k * 2, none⟩) := (hdep ⟨20, .data⟩ (by simp) rfl).1 35 rfl
                have yg : y 10 = some true := (hdep ⟨10, .guard⟩ (by simp) rfl).2 25 rfl
                clear hdep hout
                have hbz := (HB.out.trans (hBx.mono HB.out.size))
                have m0 := (hbz.cell (p := ⟨g, o + k * 2, none⟩) hgx).trans q0
                have m1 := (hbz.cell (p := ⟨g, o + k * 2 + 1, none⟩) hgx).trans q1
                refine .inl ⟨(by show (y 10 == some true) = true; rw [yg]; rfl), (Gives.val ?_ : Gives _ _ _ (.int .i64 s.p) _)⟩
                go_simp
              rcases i with _ | i
              · obtain rfl := Option.some.inj ho
                have e16 : ρ (.tmp 31) = .int .i64 T := (hdep ⟨16, .data⟩ (by simp) rfl).1 31 rfl
                have e21 : ρ (.tmp 36) = .int .i64 s.p := (hdep ⟨21, .data⟩ (by simp) rfl).1 36 rfl
                have yg : y 10 = some true := (hdep ⟨10, .guard⟩ (by simp) rfl).2 25 rfl
                clear hdep hout
                refine .inl ⟨(by show (y 10 == some true) = true; rw [yg]; rfl), (Gives.val ?_ : Gives _ _ _ (.bool true) _)⟩
                go_simp
              rcases i with _ | i
              · obtain rfl := Option.some.inj ho
                have e10 : ρ (.tmp 25) = .bool true := (hdep ⟨10, .data⟩ (by simp) rfl).1 25 rfl
                have e22 : ρ (.tmp 37) = .bool true := (hdep ⟨22, .data⟩ (by simp) rfl).1 37 rfl
                have yg : y 7 = some false := (hdep ⟨7, .guard⟩ (by simp) rfl).2 22 rfl
                have ocn : ∀ v, ρ (.const v) = v := fun v => hout (.const v) rfl
                clear hdep hout
                refine .inl ⟨(by show (y 7 == some false) = true; rw [yg]; rfl), (Gives.val ?_ : Gives _ _ _ (.bool true) _)⟩
                go_simp
              rcases i with _ | i
              · obtain rfl := Option.some.inj ho
                have e7 : ρ (.tmp 22) = .bool false := (hdep ⟨7, .data⟩ (by simp) rfl).1 22 rfl
                have e23 : ρ (.tmp 38) = .bool true := (hdep ⟨23, .data⟩ (by simp) rfl).1 38 rfl
                have ocn : ∀ v, ρ (.const v) = v := fun v => hout (.const v) rfl
                clear hdep hout
                refine .inl ⟨rfl, (Gives.val ?_ : Gives _ _ _ (.bool true) _)⟩
                go_simp
              cases ho
            case fin =>
              intro x hBx
              have hBf := (HB.out.trans (hBx.mono HB.out.size))
              go_wp2_with fail
              go_ret
              exact ⟨ret_bool (HFN.out (by rw [HI2.out]; exact decide_eq_false (by omega))).symm, hBf⟩
          · have hge2 : T < s.p := by omega
            refine wp_region_vals (by kernel_rfl) (by kernel_rfl) (by kernel_rfl) (by kernel_rfl) (fun j => [.slice pp pn cp, .slice (some ⟨g, o, none⟩) mn cs, .int .i64 ↑k, .pointer (some ⟨g, o + k * 2, none⟩), .agg #[.int .i64 s.p, .slice pR s.R.length cR], .bool true, .bool false, .bool false, .int .i64 ↑k, .bool true, .bool true, .slice (some ⟨g, o, none⟩) mn cs, .int .i64 ↑k, .int .i64 ↑km, .pointer (some ⟨g, o + km * 2, none⟩), .pointer (some ⟨g, o + km * 2, none⟩), .int .i64 T, .slice (some ⟨g, o, none⟩) mn cs, .int .i64 ↑k, .pointer (some ⟨g, o + k * 2, none⟩), .pointer (some ⟨g, o + k * 2, none⟩), .int .i64 s.p, .bool false, .bool false, .bool false].getD j undef) wr (Below.drew (Below.refl _ _)) ?step ⟨#[.slice pp pn cp, .slice (some ⟨g, o, none⟩) mn cs, undef, undef, u4, .int .i64 ↑k, .slice pp pn cp, .bool true, .bool false, .int .i64 ↑k, .slice (some ⟨g, o, none⟩) mn cs, .int .i64 ↑mn, .bool true, u13, u14, .slice pp pn cp, .slice (some ⟨g, o, none⟩) mn cs, .int .i64 ↑k, .pointer (some ⟨g, o + k * 2, none⟩), .agg #[.int .i64 s.p, .slice pR s.R.length cR], .bool true, .bool false, .bool false, .int .i64 ↑k, .bool true, .bool true, .slice (some ⟨g, o, none⟩) mn cs, .int .i64 ↑k, .int .i64 ↑km, .pointer (some ⟨g, o + km * 2, none⟩), .pointer (some ⟨g, o + km * 2, none⟩), .int .i64 T, .slice (some ⟨g, o, none⟩) mn cs, .int .i64 ↑k, .pointer (some ⟨g, o + k * 2, none⟩), .pointer (some ⟨g, o + k * 2, none⟩), .int .i64 s.p, .bool false, .bool false, .bool false], []⟩ (by kernel_rfl) ?fin
            case step =>
              intro i o ho ρ y x hBx hdep hout
              rcases i with _ | i
              · obtain rfl := Option.some.inj ho
                have o0 : ρ (.tmp 0) = .slice pp pn cp := hout (.tmp 0) rfl
                clear hdep hout
                refine .inl ⟨rfl, (Gives.val ?_ : Gives _ _ _ (.slice pp pn cp) _)⟩
                go_simp
              rcases i with _ | i
              · obtain rfl := Option.some.inj ho
                have o1 : ρ (.tmp 1) = .slice (some ⟨g, o, none⟩) mn cs := hout (.tmp 1) rfl
                clear hdep hout
                refine .inl ⟨rfl, (Gives.val ?_ : Gives _ _ _ (.slice (some ⟨g, o, none⟩) mn cs) _)⟩
                go_simp
              rcases i with _ | i
              · obtain rfl := Option.some.inj ho
                have o5 : ρ (.tmp 5) = .int .i64 ↑k := hout (.tmp 5) rfl
                clear hdep hout
                refine .inl ⟨rfl, (Gives.val ?_ : Gives _ _ _ (.int .i64 ↑k) _)⟩
                go_simp
              rcases i with _ | i
              · obtain rfl := Option.some.inj ho
                have e1 : ρ (.tmp 16) = .slice (some ⟨g, o, none⟩) mn cs := (hdep ⟨1, .data⟩ (by simp) rfl).1 16 rfl
                have e2 : ρ (.tmp 17) = .int .i64 ↑k := (hdep ⟨2, .data⟩ (by simp) rfl).1 17 rfl
                clear hdep hout
                refine .inl ⟨rfl, (Gives.val ?_ : Gives _ _ _ (.pointer (some ⟨g, o + k * 2, none⟩)) _)⟩
                go_simp
              rcases i with _ | i
              · obtain rfl := Option.some.inj ho
                have e3 : ρ (.tmp 18) = .pointer (some ⟨g, o + k * 2, none⟩) := (hdep ⟨3, .data⟩ (by simp) rfl).1 18 rfl
                clear hdep hout
                have hbz := (HB.out.trans (hBx.mono HB.out.size))
                have m0 := (hbz.cell (p := ⟨g, o + k * 2, none⟩) hgx).trans q0
                have m1 := (hbz.cell (p := ⟨g, o + k * 2 + 1, none⟩) hgx).trans q1
                refine .inl ⟨rfl, (Gives.val ?_ : Gives _ _ _ (.agg #[.int .i64 s.p, .slice pR s.R.length cR]) _)⟩
                go_simp
              rcases i with _ | i
              · obtain rfl := Option.some.inj ho
                have e0 : ρ (.tmp 15) = .slice pp pn cp := (hdep ⟨0, .data⟩ (by simp) rfl).1 15 rfl
                have e4 : ρ (.tmp 19) = .agg #[.int .i64 s.p, .slice pR s.R.length cR] := (hdep ⟨4, .data⟩ (by simp) rfl).1 19 rfl
                have ofn : ∀ f, ρ (.func f) = .func (.func f) #[] #[] := fun f => hout (.func f) rfl
                clear hdep hout
                refine .inl ⟨?_, ?_⟩
                · rfl
                show Gives _ _ _ (.bool true) _
                refine Gives.call (HSO.out _ hb0 x (HB.out.trans (hBx.mono HB.out.size))) ?_
                go_simp
              rcases i with _ | i
              · obtain rfl := Option.some.inj ho
                have e5 : ρ (.tmp 20) = .bool true := (hdep ⟨5, .data⟩ (by simp) rfl).1 20 rfl
                clear hdep hout
                refine .inl ⟨rfl, (Gives.val ?_ : Gives _ _ _ (.bool false) _)⟩
                go_simp
              rcases i with _ | i
              · obtain rfl := Option.some.inj ho
                have e6 : ρ (.tmp 21) = .bool false := (hdep ⟨6, .data⟩ (by simp) rfl).1 21 rfl
                clear hdep hout
                refine .inl ⟨rfl, (Gives.val ?_ : Gives _ _ _ (.bool false) _)⟩
                go_simp
              rcases i with _ | i
              · obtain rfl := Option.some.inj ho
                have o5 : ρ (.tmp 5) = .int .i64 ↑k := hout (.tmp 5) rfl
                have yg : y 7 = some false := (hdep ⟨7, .guard⟩ (by simp) rfl).2 22 rfl
                clear hdep hout
                refine .inl ⟨(by show (y 7 == some false) = true; rw [yg]; rfl), (Gives.val ?_ : Gives _ _ _ (.int .i64 ↑k) _)⟩
                go_simp
              rcases i with _ | i
              · obtain rfl := Option.some.inj ho
                have e8 : ρ (.tmp 23) = .int .i64 ↑k := (hdep ⟨8, .data⟩ (by simp) rfl).1 23 rfl
                have yg : y 7 = some false := (hdep ⟨7, .guard⟩ (by simp) rfl).2 22 rfl
                have ocn : ∀ v, ρ (.const v) = v := fun v => hout (.const v) rfl
                clear hdep hout
                refine .inl ⟨(by show (y 7 == some false) = true; rw [yg]; rfl), (Gives.val ?_ : Gives _ _ _ (.bool true) _)⟩
                (go_simp; have hkm := HKM.out; omega)
              rcases i with _ | i
              · obtain rfl := Option.some.inj ho
                have e9 : ρ (.tmp 24) = .bool true := (hdep ⟨9, .data⟩ (by simp) rfl).1 24 rfl
                have yg : y 7 = some false := (hdep ⟨7, .guard⟩ (by simp) rfl).2 22 rfl
                clear hdep hout
                refine .inl ⟨(by show (y 7 == some false) = true; rw [yg]; rfl), (Gives.val ?_ : Gives _ _ _ (.bool true) _)⟩
                go_simp
              rcases i with _ | i
              · obtain rfl := Option.some.inj ho
                have o1 : ρ (.tmp 1) = .slice (some ⟨g, o, none⟩) mn cs := hout (.tmp 1) rfl
                have yg : y 10 = some true := (hdep ⟨10, .guard⟩ (by simp) rfl).2 25 rfl
                clear hdep hout
                refine .inl ⟨(by show (y 10 == some true) = true; rw [yg]; rfl), (Gives.val ?_ : Gives _ _ _ (.slice (some ⟨g, o, none⟩) mn cs) _)⟩
                go_simp
              rcases i with _ | i
              · obtain rfl := Option.some.inj ho
                have o5 : ρ (.tmp 5) = .int .i64 ↑k := hout (.tmp 5) rfl
                have yg : y 10 = some true := (hdep ⟨10, .guard⟩ (by simp) rfl).2 25 rfl
                clear hdep hout
                refine .inl ⟨(by show (y 10 == some true) = true; rw [yg]; rfl), (Gives.val ?_ : Gives _ _ _ (.int .i64 ↑k) _)⟩
                go_simp
              rcases i with _ | i
              · obtain rfl := Option.some.inj ho
                have e12 : ρ (.tmp 27) = .int .i64 ↑k := (hdep ⟨12, .data⟩ (by simp) rfl).1 27 rfl
                have yg : y 10 = some true := (hdep ⟨10, .guard⟩ (by simp) rfl).2 25 rfl
                have ocn : ∀ v, ρ (.const v) = v := fun v => hout (.const v) rfl
                clear hdep hout
                refine .inl ⟨(by show (y 10 == some true) = true; rw [yg]; rfl), (Gives.val ?_ : Gives _ _ _ (.int .i64 ↑km) _)⟩
                (go_simp; have hkm := HKM.out; exact (IntWalk.i64_in _ (by omega)).trans (by omega))
              rcases i with _ | i
              · obtain rfl := Option.some.inj ho
                have e11 : ρ (.tmp 26) = .slice (some ⟨g, o, none⟩) mn cs := (hdep ⟨11, .data⟩ (by simp) rfl).1 26 rfl
                have e13 : ρ (.tmp 28) = .int .i64 ↑km := (hdep ⟨13, .data⟩ (by simp) rfl).1 28 rfl
                have yg : y 10 = some true := (hdep ⟨10, .guard⟩ (by simp) rfl).2 25 rfl
                clear hdep hout
                refine .inl ⟨(by show (y 10 == some true) = true; rw [yg]; rfl), (Gives.val ?_ : Gives _ _ _ (.pointer (some ⟨g, o + km * 2, none⟩)) _)⟩
                go_simp
              rcases i with _ | i
              · obtain rfl := Option.some.inj ho
                have e14 : ρ (.tmp 29) = .pointer (some ⟨g, o + km * 2, none⟩) := (hdep ⟨14, .data⟩ (by simp) rfl).1 29 rfl
                have yg : y 10 = some true := (hdep ⟨10, .guard⟩ (by simp) rfl).2 25 rfl
                clear hdep hout
                refine .inl ⟨(by show (y 10 == some true) = true; rw [yg]; rfl), (Gives.val ?_ : Gives _ _ _ (.pointer (some ⟨g, o + km * 2, none⟩)) _)⟩
                go_simp
              rcases i with _ | i
              · obtain rfl := Option.some.inj ho
                have e15 : ρ (.tmp 30) = .pointer (some ⟨g, o + km * 2, none⟩) := (hdep ⟨15, .data⟩ (by simp) rfl).1 30 rfl
                have yg : y 10 = some true := (hdep ⟨10, .guard⟩ (by simp) rfl).2 25 rfl
                clear hdep hout
                have hbz := (HB.out.trans (hBx.mono HB.out.size))
                have m0 := (hbz.cell (p := ⟨g, o + km * 2, none⟩) hgx).trans p0
                refine .inl ⟨(by show (y 10 == some true) = true; rw [yg]; rfl), (Gives.val ?_ : Gives _ _ _ (.int .i64 T) _)⟩
                go_simp
              rcases i with _ | i
              · obtain rfl := Option.some.inj ho
                have o1 : ρ (.tmp 1) = .slice (some ⟨g, o, none⟩) mn cs := hout (.tmp 1) rfl
                have yg : y 10 = some true := (hdep ⟨10, .guard⟩ (by simp) rfl).2 25 rfl
                clear hdep hout
                refine .inl ⟨(by show (y 10 == some true) = true; rw [yg]; rfl), (Gives.val ?_ : Gives _ _ _ (.slice (some ⟨g, o, none⟩) mn cs) _)⟩
                go_simp
              rcases i with _ | i
              · obtain rfl := Option.some.inj ho
                have o5 : ρ (.tmp 5) = .int .i64 ↑k := hout (.tmp 5) rfl
                have yg : y 10 = some true := (hdep ⟨10, .guard⟩ (by simp) rfl).2 25 rfl
                clear hdep hout
                refine .inl ⟨(by show (y 10 == some true) = true; rw [yg]; rfl), (Gives.val ?_ : Gives _ _ _ (.int .i64 ↑k) _)⟩
                go_simp
              rcases i with _ | i
              · obtain rfl := Option.some.inj ho
                have e17 : ρ (.tmp 32) = .slice (some ⟨g, o, none⟩) mn cs := (hdep ⟨17, .data⟩ (by simp) rfl).1 32 rfl
                have e18 : ρ (.tmp 33) = .int .i64 ↑k := (hdep ⟨18, .data⟩ (by simp) rfl).1 33 rfl
                have yg : y 10 = some true := (hdep ⟨10, .guard⟩ (by simp) rfl).2 25 rfl
                clear hdep hout
                refine .inl ⟨(by show (y 10 == some true) = true; rw [yg]; rfl), (Gives.val ?_ : Gives _ _ _ (.pointer (some ⟨g, o + k * 2, none⟩)) _)⟩
                go_simp
              rcases i with _ | i
              · obtain rfl := Option.some.inj ho
                have e19 : ρ (.tmp 34) = .pointer (some ⟨g, o + k * 2, none⟩) := (hdep ⟨19, .data⟩ (by simp) rfl).1 34 rfl
                have yg : y 10 = some true := (hdep ⟨10, .guard⟩ (by simp) rfl).2 25 rfl
                clear hdep hout
                refine .inl ⟨(by show (y 10 == some true) = true; rw [yg]; rfl), (Gives.val ?_ : Gives _ _ _ (.pointer (some ⟨g, o + k * 2, none⟩)) _)⟩
                go_simp
              rcases i with _ | i
              · obtain rfl := Option.some.inj ho
                have e20 : ρ (.tmp 35) = .pointer (some ⟨g, o + k * 2, none⟩) := (hdep ⟨20, .data⟩ (by simp) rfl).1 35 rfl
                have yg : y 10 = some true := (hdep ⟨10, .guard⟩ (by simp) rfl).2 25 rfl
                clear hdep hout
                have hbz := (HB.out.trans (hBx.mono HB.out.size))
                have m0 := (hbz.cell (p := ⟨g, o + k * 2, none⟩) hgx).trans q0
                have m1 := (hbz.cell (p := ⟨g, o + k * 2 + 1, none⟩) hgx).trans q1
                refine .inl ⟨(by show (y 10 == some true) = true; rw [yg]; rfl), (Gives.val ?_ : Gives _ _ _ (.int .i64 s.p) _)⟩
                go_simp
              rcases i with _ | i
              · obtain rfl := Option.some.inj ho
                have e16 : ρ (.tmp 31) = .int .i64 T := (hdep ⟨16, .data⟩ (by simp) rfl).1 31 rfl
                have e21 : ρ (.tmp 36) = .int .i64 s.p := (hdep ⟨21, .data⟩ (by simp) rfl).1 36 rfl
                have yg : y 10 = some true := (hdep ⟨10, .guard⟩ (by simp) rfl).2 25 rfl
                clear hdep hout
                refine .inl ⟨(by show (y 10 == some true) = true; rw [yg]; rfl), (Gives.val ?_ : Gives _ _ _ (.bool false) _)⟩
                go_simp
              rcases i with _ | i
              · obtain rfl := Option.some.inj ho
                have e10 : ρ (.tmp 25) = .bool true := (hdep ⟨10, .data⟩ (by simp) rfl).1 25 rfl
                have e22 : ρ (.tmp 37) = .bool false := (hdep ⟨22, .data⟩ (by simp) rfl).1 37 rfl
                have yg : y 7 = some false := (hdep ⟨7, .guard⟩ (by simp) rfl).2 22 rfl
                have ocn : ∀ v, ρ (.const v) = v := fun v => hout (.const v) rfl
                clear hdep hout
                refine .inl ⟨(by show (y 7 == some false) = true; rw [yg]; rfl), (Gives.val ?_ : Gives _ _ _ (.bool false) _)⟩
                go_simp
              rcases i with _ | i
              · obtain rfl := Option.some.inj ho
                have e7 : ρ (.tmp 22) = .bool false := (hdep ⟨7, .data⟩ (by simp) rfl).1 22 rfl
                have e23 : ρ (.tmp 38) = .bool false := (hdep ⟨23, .data⟩ (by simp) rfl).1 38 rfl
                have ocn : ∀ v, ρ (.const v) = v := fun v => hout (.const v) rfl
                clear hdep hout
                refine .inl ⟨rfl, (Gives.val ?_ : Gives _ _ _ (.bool false) _)⟩
                go_simp
              cases ho
            case fin =>
              intro x hBx
              have HBN : Hid (Below x0.heap.size x0 x) := (HB.out.trans (hBx.mono HB.out.size))
              clear HB hBx
              go_wp2_with fail
              go_roundw
              case rel =>
                refine ⟨k + 1, by omega, by go_num, HBN.out, fun j hj => ?_⟩
                rcases (by omega : j < k ∨ j = k) with h | rfl
                · exact hd.out j h
                · rw [HI2.out]; exact decide_eq_true (by omega)
              case measure => simp [RowKit.intOf]; omega
    · obtain rfl : k = mn := by omega
      have hki : ¬ (k : Int) < (k : Int) := by omega
      have HAll : Hid (allB (sumG P M) k = true) := allB_yes hd.out
      go_wp2_with fail
      go_ret
      exact ⟨ret_bool (by rw [HF2.out, HAll.out]), HB.out⟩

end Go.Proofs.YtlkebkajdlgebaaGreat

/-
  What a procedure calls, as rows of sums ask for it: the contract of callsOf in the form of CallsOfIs.
-/
namespace Go.Proofs.YtlkebkajdlgebaaGreat
open Go.RowKit
set_option linter.unusedVariables false
set_option linter.unusedSimpArgs false

theorem callsOf_is (B : Nat) (P : List (List I4)) (hok : progOkF P = true) (k : Nat) (hk : k < P.length) : CallsOfIs B (P.getD k []) (calledF (P.getD k [])) := by
  intro y uc hc
  have HI := progOkF_code hok hk
  have hl4 := (progOkF_len hok).2
  refine (callsOf_set y B uc _ hc P.length HI.2 HI.1 hl4).mono ?_
  rintro e z ⟨v, rfl, hown, hb⟩
  refine ⟨v, _, rfl, hown.ints.any, fun m => ?_, hb⟩
  have h := callsL_mem (P.getD k []) P.length (fun x hx => called_in HI.2 x hx) m
  rw [Bool.eq_iff_iff, decide_eq_true_eq]
  exact h

end Go.Proofs.YtlkebkajdlgebaaGreat
