import Derived.Test.YtlkebkajdlgebaaGreatB30
import Derived.Test.YtlkebkajdlgebaaGreatB24
import Derived.Test.YtlkebkajdlgebaaGreatB21
import Derived.Test.YtlkebkajdlgebaaGreatB29
import Derived.Test.YtlkebkajdlgebaaGreatB25
import Derived.Test.YtlkebkajdlgebaaGreatB20
import Derived.Test.YtlkebkajdlgebaaGreatB6
import Derived.Test.YtlkebkajdlgebaaGreatB14
/-
  Whether a sum is ok: the contract of the model's SumOk.
-/
namespace Go.Proofs.YtlkebkajdlgebaaGreat
open Go.RowKit
set_option linter.unusedVariables false
set_option linter.unusedSimpArgs false

/-- what each procedure of a program calls -/
def callsQ (P : List (List I4)) (k : Nat) : Int → Bool := calledF (P.getD k [])
/-- a row that lies somewhere: its slices' headers -/
theorem RwC.cells {x : World} {g o : Nat} {r : Rw} (h : RwC x g o r) : ∃ p3 c3 p4 c4, x.cell? ⟨g, o, none⟩ = some (.bool r.o.1) ∧ x.cell? ⟨g, o + 1, none⟩ = some (.int .i64 r.o.2.1) ∧ x.cell? ⟨g, o + 2, none⟩ = some (.int .i64 r.o.2.2) ∧
    x.cell? ⟨g, o + 3, none⟩ = some (.slice p3 r.ns c3) ∧ x.cell? ⟨g, o + 4, none⟩ = some (.slice p4 r.nc c4) ∧ IRowW 3 x (.slice p3 r.ns c3) r.ns r.S ∧ IRowW 2 x (.slice p4 r.nc c4) r.nc r.C := by
  obtain ⟨c0, c1, c2, ⟨u3, c3, i3⟩, ⟨u4, c4, i4⟩⟩ := h
  obtain ⟨p3, k3, rfl⟩ := i3.shape
  obtain ⟨p4, k4, rfl⟩ := i4.shape
  exact ⟨p3, k3, p4, k4, c0, c1, c2, c3, c4, i3, i4⟩
theorem rowF_spec (x0 : World) (B : Nat) (v : Value) (P : List (List I4)) (h : ProgAt x0 B v P) (hok : progOkF P = true) (k0 : Nat) (hk0 : k0 < P.length) (r : Rw) (p3 p4 : Option Addr) (c3 c4 : Nat) (hs : IRowW 3 x0 (.slice p3 r.ns c3) r.ns r.S) (hc : IRowW 2 x0 (.slice p4 r.nc c4) r.nc r.C) (b : Bool) (hb : rowF P k0 (callsQ P k0) r = b) (z : World) (hz : Below x0.heap.size x0 z) :
    Calls Tryz.prog 32 #[v, .int .i64 k0, .agg #[.bool r.o.1, .int .i64 r.o.2.1, .int .i64 r.o.2.2, .slice p3 r.ns c3, .slice p4 r.nc c4]] z fun e y => e = .returned (.bool b) ∧ Below z.heap.size z y := by
  have := rowOk_spec z B v P (h.later hz) hok k0 hk0 r _ _ (hs.later hz) (hc.later hz)
  rw [rowG_eq] at this
  rw [show calledF (P.getD k0 []) = callsQ P k0 from rfl, hb] at this
  exact this

set_option maxRecDepth 100000 in
set_option maxHeartbeats 8000000 in
theorem sumOk_spec (x0 : World) (B : Nat) (v : Value) (P : List (List I4)) (h : ProgAt x0 B v P) (s : Sm) (u : Value) (hs : RowsAt x0 u s.R) :
    Calls Tryz.prog 9 #[v, .agg #[.int .i64 s.p, u]] x0 fun e y => e = .returned (.bool (progOkF P && sumF P (callsQ P) s)) ∧ Below x0.heap.size x0 y := by
  obtain ⟨n0, R⟩ := s
  dsimp only at hs
  obtain ⟨pp, cp, rfl, _⟩ := h.shape
  obtain ⟨ps, cs, rfl, hm⟩ := hs.shape
  unfold maxLen at hm
  have hri : (R.length : Int) ≤ 9223372036854775807 := by omega
  have HF : Hid ((progOkF P && sumF P (callsQ P) ⟨n0, R⟩) = (progOkF P && (inI n0 0 (P.length - 1) && decide (R.length = 3) && allB (fun j => rowF P n0 (callsQ P n0.toNat) (R.getD j rw0)) R.length))) := rfl
  generalize (progOkF P && sumF P (callsQ P) ⟨n0, R⟩) = F at HF ⊢
  have HP : Hid (ProgAt x0 B (.slice pp P.length cp) P) := h
  have HS : Hid (RowsAt x0 (.slice ps R.length cs) R) := hs
  have HPI : Hid (hasPF P n0 = (progOkF P && inI n0 0 (P.length - 1))) := rfl
  clear h hs hm
  dsimp only
  generalize hpn : P.length = pn at *
  have HPN : Hid (P.length = pn) := hpn
  clear hpn
  generalize hrn : R.length = rn at *
  have HRN : Hid (R.length = rn) := hrn
  clear hrn
  go_enter Tryz.func9, Tryz.ntmps9
  go_wp2_with fail
  have HX : Hid (Below x0.heap.size x0 (x0.alloc (.cells #[.int .i64 n0, .slice ps rn cs] 33))) := (Below.refl _ _).alloc (Nat.le_refl _) _
  have KX : Hid (BxN (x0.alloc (.cells #[.int .i64 n0, .slice ps rn cs] 33)) x0.heap.size [.int .i64 n0, .slice ps rn cs]) := BxN.new x0 [_, _] _
  generalize x0.alloc (.cells #[.int .i64 n0, .slice ps rn cs] 33) = X at HX KX ⊢
  refine (l2Proc_any X B _ P (by have := HP.out.later HX.out; exact this) n0).mono ?_
  rintro e y ⟨rfl, hb⟩
  have HY : Hid (Below x0.heap.size x0 y) := HX.out.trans (hb.mono HX.out.size)
  have KY := KX.out.laterH hb
  clear hb HX KX
  cases h1 : hasPF P n0
  · have HNO : Hid (F = false) := by
      show _ = _
      rw [HF.out]
      have := HPI.out
      rw [h1] at this
      cases hp : progOkF P
      · rfl
      · rw [hp] at this
        rw [show inI n0 0 (pn - 1) = false from by simpa using this.symm]
        rfl
    clear HF HPI h1
    go_wp2_with fail
    go_ret
    exact ⟨ret_bool (by rw [HNO.out]), HY.out⟩
  · obtain ⟨k0, rfl, hk0, hok⟩ := hasPF_at h1
    have HK : Hid (k0 < P.length) := hk0
    have HOK : Hid (progOkF P = true) := hok
    have hin : inI k0 0 (pn - 1) = true := by
      have := HPI.out
      rw [h1, hok] at this
      simpa using this.symm
    have a0 := KY.out.c 0 _ rfl
    have a1 := KY.out.c 1 _ rfl
    have l1 := KY.out.lt
    by_cases h3 : rn = 3
    · subst h3
      have HF2 : Hid (F = (rowF P k0 (callsQ P k0) (R.getD 0 rw0) && rowF P k0 (callsQ P k0) (R.getD 1 rw0) && rowF P k0 (callsQ P k0) (R.getD 2 rw0))) := by
        show _ = _
        rw [HF.out, hin, hok]
        simp [allB, List.range_succ, Bool.and_assoc]
      clear HF h1 hin hok hk0 HPI
      obtain ⟨g, o, rfl, hgx, hr0⟩ := RowsAt.row (p := ps) (cap := cs) (R := R) (j := 0) (by have := HS.out; rw [HRN.out]; exact this) (by rw [HRN.out]; omega)
      obtain ⟨g', o', he, _, hr1⟩ := RowsAt.row (p := some ⟨g, o, none⟩) (cap := cs) (R := R) (j := 1) (by have := HS.out; rw [HRN.out]; exact this) (by rw [HRN.out]; omega)
      obtain ⟨rfl, rfl⟩ : g = g' ∧ o = o' := by injection he with e; injection e with e1 e2; exact ⟨e1, e2⟩
      obtain ⟨g', o', he, _, hr2⟩ := RowsAt.row (p := some ⟨g, o, none⟩) (cap := cs) (R := R) (j := 2) (by have := HS.out; rw [HRN.out]; exact this) (by rw [HRN.out]; omega)
      obtain ⟨rfl, rfl⟩ : g = g' ∧ o = o' := by injection he with e; injection e with e1 e2; exact ⟨e1, e2⟩
      rw [show o + 0 * 5 = o by omega] at hr0
      rw [show o + 1 * 5 = o + 5 by omega] at hr1
      rw [show o + 2 * 5 = o + 10 by omega] at hr2
      obtain ⟨p3, c3, p4, c4, z0, z1, z2, z3, z4, i3, i4⟩ := hr0.cells
      obtain ⟨q3, d3, q4, d4, y0, y1, y2, y3, y4, j3, j4⟩ := hr1.cells
      obtain ⟨s3, e3, s4, e4, x1, x2, x3, x4, x5, k3, k4⟩ := hr2.cells
      clear hr0 hr1 hr2
      generalize R.getD 0 rw0 = r0 at *
      generalize R.getD 1 rw0 = r1 at *
      generalize R.getD 2 rw0 = r2 at *
      have HR0 : Hid (∀ b, rowF P k0 (callsQ P k0) r0 = b → ∀ z : World, Below x0.heap.size x0 z → Calls Tryz.prog 32 #[.slice pp pn cp, .int .i64 k0, .agg #[.bool r0.o.1, .int .i64 r0.o.2.1, .int .i64 r0.o.2.2, .slice p3 r0.ns c3, .slice p4 r0.nc c4]] z fun e y => e = .returned (.bool b) ∧ Below z.heap.size z y) := fun b hb z hz => rowF_spec x0 B _ P HP.out HOK.out k0 HK.out r0 p3 p4 c3 c4 i3 i4 b hb z hz
      have HR1 : Hid (∀ b, rowF P k0 (callsQ P k0) r1 = b → ∀ z : World, Below x0.heap.size x0 z → Calls Tryz.prog 32 #[.slice pp pn cp, .int .i64 k0, .agg #[.bool r1.o.1, .int .i64 r1.o.2.1, .int .i64 r1.o.2.2, .slice q3 r1.ns d3, .slice q4 r1.nc d4]] z fun e y => e = .returned (.bool b) ∧ Below z.heap.size z y) := fun b hb z hz => rowF_spec x0 B _ P HP.out HOK.out k0 HK.out r1 q3 q4 d3 d4 j3 j4 b hb z hz
      have HR2 : Hid (∀ b, rowF P k0 (callsQ P k0) r2 = b → ∀ z : World, Below x0.heap.size x0 z → Calls Tryz.prog 32 #[.slice pp pn cp, .int .i64 k0, .agg #[.bool r2.o.1, .int .i64 r2.o.2.1, .int .i64 r2.o.2.2, .slice s3 r2.ns e3, .slice s4 r2.nc e4]] z fun e y => e = .returned (.bool b) ∧ Below z.heap.size z y) := fun b hb z hz => rowF_spec x0 B _ P HP.out HOK.out k0 HK.out r2 s3 s4 e3 e4 k3 k4 b hb z hz
      clear i3 i4 j3 j4 k3 k4 HP HS HOK HK
      go_wp2_with fail
      clear a0 a1 l1
      have HF3 : Hid (∀ b0 b1 b2, rowF P k0 (callsQ P k0) r0 = b0 → rowF P k0 (callsQ P k0) r1 = b1 → rowF P k0 (callsQ P k0) r2 = b2 → F = (b0 && b1 && b2)) := fun b0 b1 b2 h0 h1 h2 => by rw [HF2.out, h0, h1, h2]
      clear HF2
      cases hb0 : rowF P k0 (callsQ P k0) r0
      · have HV := HF3.out _ _ _ hb0 rfl rfl
        have HV2 : Hid (F = false) := by show _ = _; rw [HV]; rfl
        clear HV HF3
        refine wp_region_vals (by kernel_rfl) (by kernel_rfl) (by kernel_rfl) (by kernel_rfl) (fun j => [.slice pp pn cp, .pointer (some ⟨x0.heap.size, 0, none⟩), .int .i64 ↑k0, .pointer (some ⟨x0.heap.size, 1, none⟩), .slice (some ⟨g, o, none⟩) 3 cs, .pointer (some ⟨g, o, none⟩), .agg #[.bool r0.o.1, .int .i64 r0.o.2.1, .int .i64 r0.o.2.2, .slice p3 r0.ns c3, .slice p4 r0.nc c4], .bool false, .bool false, undef, undef, undef, undef, undef, undef, undef, undef, .bool false, .bool false, undef, undef, undef, undef, undef, undef, undef, undef, .bool false, .bool false].getD j undef) y (Below.drew (Below.refl _ _)) ?step ⟨#[.slice pp pn cp, .agg #[.int .i64 ↑k0, .slice (some ⟨g, o, none⟩) 3 cs], undef, .pointer (some ⟨x0.heap.size, 0, none⟩), .bool false, .slice pp pn cp, .pointer (some ⟨x0.heap.size, 0, none⟩), .int .i64 ↑k0, .bool true, .bool false, .bool false, .pointer (some ⟨x0.heap.size, 1, none⟩), .slice (some ⟨g, o, none⟩) 3 cs, .int .i64 3, .bool false, .bool false, .slice pp pn cp, .pointer (some ⟨x0.heap.size, 0, none⟩), .int .i64 ↑k0, .pointer (some ⟨x0.heap.size, 1, none⟩), .slice (some ⟨g, o, none⟩) 3 cs, .pointer (some ⟨g, o, none⟩), .agg #[.bool r0.o.1, .int .i64 r0.o.2.1, .int .i64 r0.o.2.2, .slice p3 r0.ns c3, .slice p4 r0.nc c4], .bool false, .bool false, undef, undef, undef, undef, undef, undef, undef, undef, .bool false, .bool false, undef, undef, undef, undef, undef, undef, undef, undef, .bool false], []⟩ (by kernel_rfl) ?fin
        case step =>
          intro i o ho ρ y x hBx hdep hout
          rcases i with _ | i
          · obtain rfl := Option.some.inj ho
            have o0 : ρ (.tmp 0) = .slice pp pn cp := hout (.tmp 0) rfl
            clear hdep hout
            refine .inl ⟨rfl, (Gives.val ?_ : Gives _ _ _ (.slice pp pn cp) _)⟩
            go_simp
          rcases i with _ | i
          · obtain rfl := Option.some.inj ho
            have o3 : ρ (.tmp 3) = .pointer (some ⟨x0.heap.size, 0, none⟩) := hout (.tmp 3) rfl
            clear hdep hout
            refine .inl ⟨rfl, (Gives.val ?_ : Gives _ _ _ (.pointer (some ⟨x0.heap.size, 0, none⟩)) _)⟩
            go_simp
          rcases i with _ | i
          · obtain rfl := Option.some.inj ho
            have e1 : ρ (.tmp 17) = .pointer (some ⟨x0.heap.size, 0, none⟩) := (hdep ⟨1, .data⟩ (by simp) rfl).1 17 rfl
            clear hdep hout
            have kb := KY.out.later hBx
            have c0 := kb.c 0 _ rfl
            have c1 := kb.c 1 _ rfl
            have cl0 := kb.lt
            refine .inl ⟨rfl, (Gives.val ?_ : Gives _ _ _ (.int .i64 ↑k0) _)⟩
            go_simp
          rcases i with _ | i
          · obtain rfl := Option.some.inj ho
            have o3 : ρ (.tmp 3) = .pointer (some ⟨x0.heap.size, 0, none⟩) := hout (.tmp 3) rfl
            clear hdep hout
            refine .inl ⟨rfl, (Gives.val ?_ : Gives _ _ _ (.pointer (some ⟨x0.heap.size, 1, none⟩)) _)⟩
            go_simp
          rcases i with _ | i
          · obtain rfl := Option.some.inj ho
            have e3 : ρ (.tmp 19) = .pointer (some ⟨x0.heap.size, 1, none⟩) := (hdep ⟨3, .data⟩ (by simp) rfl).1 19 rfl
            clear hdep hout
            have kb := KY.out.later hBx
            have c0 := kb.c 0 _ rfl
            have c1 := kb.c 1 _ rfl
            have cl0 := kb.lt
            refine .inl ⟨rfl, (Gives.val ?_ : Gives _ _ _ (.slice (some ⟨g, o, none⟩) 3 cs) _)⟩
            go_simp
          rcases i with _ | i
          · obtain rfl := Option.some.inj ho
            have e4 : ρ (.tmp 20) = .slice (some ⟨g, o, none⟩) 3 cs := (hdep ⟨4, .data⟩ (by simp) rfl).1 20 rfl
            have ocn : ∀ v, ρ (.const v) = v := fun v => hout (.const v) rfl
            clear hdep hout
            refine .inl ⟨rfl, (Gives.val ?_ : Gives _ _ _ (.pointer (some ⟨g, o, none⟩)) _)⟩
            go_simp
          rcases i with _ | i
          · obtain rfl := Option.some.inj ho
            have e5 : ρ (.tmp 21) = .pointer (some ⟨g, o, none⟩) := (hdep ⟨5, .data⟩ (by simp) rfl).1 21 rfl
            clear hdep hout
            have hbz := (HY.out.trans (hBx.mono HY.out.size))
            have m0 := (hbz.cell (p := ⟨g, o, none⟩) hgx).trans z0
            have m1 := (hbz.cell (p := ⟨g, o + 1, none⟩) hgx).trans z1
            have m2 := (hbz.cell (p := ⟨g, o + 2, none⟩) hgx).trans z2
            have m3 := (hbz.cell (p := ⟨g, o + 3, none⟩) hgx).trans z3
            have m4 := (hbz.cell (p := ⟨g, o + 4, none⟩) hgx).trans z4
            refine .inl ⟨rfl, (Gives.val ?_ : Gives _ _ _ (.agg #[.bool r0.o.1, .int .i64 r0.o.2.1, .int .i64 r0.o.2.2, .slice p3 r0.ns c3, .slice p4 r0.nc c4]) _)⟩
            go_simp
          rcases i with _ | i
          · obtain rfl := Option.some.inj ho
            have e0 : ρ (.tmp 16) = .slice pp pn cp := (hdep ⟨0, .data⟩ (by simp) rfl).1 16 rfl
            have e2 : ρ (.tmp 18) = .int .i64 ↑k0 := (hdep ⟨2, .data⟩ (by simp) rfl).1 18 rfl
            have e6 : ρ (.tmp 22) = .agg #[.bool r0.o.1, .int .i64 r0.o.2.1, .int .i64 r0.o.2.2, .slice p3 r0.ns c3, .slice p4 r0.nc c4] := (hdep ⟨6, .data⟩ (by simp) rfl).1 22 rfl
            have ofn : ∀ f, ρ (.func f) = .func (.func f) #[] #[] := fun f => hout (.func f) rfl
            clear hdep hout
            refine .inl ⟨?_, ?_⟩
            · rfl
            show Gives _ _ _ (.bool false) _
            refine Gives.call (HR0.out _ hb0 x (HY.out.trans (hBx.mono HY.out.size))) ?_
            go_simp
          rcases i with _ | i
          · obtain rfl := Option.some.inj ho
            have e7 : ρ (.tmp 23) = .bool false := (hdep ⟨7, .data⟩ (by simp) rfl).1 23 rfl
            clear hdep hout
            refine .inl ⟨rfl, (Gives.val ?_ : Gives _ _ _ (.bool false) _)⟩
            go_simp
          rcases i with _ | i
          · obtain rfl := Option.some.inj ho
            have yg : y 8 = some false := (hdep ⟨8, .guard⟩ (by simp) rfl).2 24 rfl
            exact .inr ⟨by show (y 8 == some true) = false; rw [yg]; rfl, rfl⟩
          rcases i with _ | i
          · obtain rfl := Option.some.inj ho
            have yg : y 8 = some false := (hdep ⟨8, .guard⟩ (by simp) rfl).2 24 rfl
            exact .inr ⟨by show (y 8 == some true) = false; rw [yg]; rfl, rfl⟩
          rcases i with _ | i
          · obtain rfl := Option.some.inj ho
            have yg : y 8 = some false := (hdep ⟨8, .guard⟩ (by simp) rfl).2 24 rfl
            exact .inr ⟨by show (y 8 == some true) = false; rw [yg]; rfl, rfl⟩
          rcases i with _ | i
          · obtain rfl := Option.some.inj ho
            have yg : y 8 = some false := (hdep ⟨8, .guard⟩ (by simp) rfl).2 24 rfl
            exact .inr ⟨by show (y 8 == some true) = false; rw [yg]; rfl, rfl⟩
          rcases i with _ | i
          · obtain rfl := Option.some.inj ho
            have yg : y 8 = some false := (hdep ⟨8, .guard⟩ (by simp) rfl).2 24 rfl
            exact .inr ⟨by show (y 8 == some true) = false; rw [yg]; rfl, rfl⟩
          rcases i with _ | i
          · obtain rfl := Option.some.inj ho
            have yg : y 8 = some false := (hdep ⟨8, .guard⟩ (by simp) rfl).2 24 rfl
            exact .inr ⟨by show (y 8 == some true) = false; rw [yg]; rfl, rfl⟩
          rcases i with _ | i
          · obtain rfl := Option.some.inj ho
            have yg : y 8 = some false := (hdep ⟨8, .guard⟩ (by simp) rfl).2 24 rfl
            exact .inr ⟨by show (y 8 == some true) = false; rw [yg]; rfl, rfl⟩
          rcases i with _ | i
          · obtain rfl := Option.some.inj ho
            have yg : y 8 = some false := (hdep ⟨8, .guard⟩ (by simp) rfl).2 24 rfl
            exact .inr ⟨by show (y 8 == some true) = false; rw [yg]; rfl, rfl⟩
          rcases i with _ | i
          · obtain rfl := Option.some.inj ho
            have e8 : ρ (.tmp 24) = .bool false := (hdep ⟨8, .data⟩ (by simp) rfl).1 24 rfl
            have e16 : ρ (.tmp 32) = undef := (hdep ⟨16, .data⟩ (by simp) rfl).1 32 rfl
            have ocn : ∀ v, ρ (.const v) = v := fun v => hout (.const v) rfl
            clear hdep hout
            refine .inl ⟨rfl, (Gives.val ?_ : Gives _ _ _ (.bool false) _)⟩
            go_simp
          rcases i with _ | i
          · obtain rfl := Option.some.inj ho
            have e17 : ρ (.tmp 33) = .bool false := (hdep ⟨17, .data⟩ (by simp) rfl).1 33 rfl
            clear hdep hout
            refine .inl ⟨rfl, (Gives.val ?_ : Gives _ _ _ (.bool false) _)⟩
            go_simp
          rcases i with _ | i
          · obtain rfl := Option.some.inj ho
            have yg : y 18 = some false := (hdep ⟨18, .guard⟩ (by simp) rfl).2 34 rfl
            exact .inr ⟨by show (y 18 == some true) = false; rw [yg]; rfl, rfl⟩
          rcases i with _ | i
          · obtain rfl := Option.some.inj ho
            have yg : y 18 = some false := (hdep ⟨18, .guard⟩ (by simp) rfl).2 34 rfl
            exact .inr ⟨by show (y 18 == some true) = false; rw [yg]; rfl, rfl⟩
          rcases i with _ | i
          · obtain rfl := Option.some.inj ho
            have yg : y 18 = some false := (hdep ⟨18, .guard⟩ (by simp) rfl).2 34 rfl
            exact .inr ⟨by show (y 18 == some true) = false; rw [yg]; rfl, rfl⟩
          rcases i with _ | i
          · obtain rfl := Option.some.inj ho
            have yg : y 18 = some false := (hdep ⟨18, .guard⟩ (by simp) rfl).2 34 rfl
            exact .inr ⟨by show (y 18 == some true) = false; rw [yg]; rfl, rfl⟩
          rcases i with _ | i
          · obtain rfl := Option.some.inj ho
            have yg : y 18 = some false := (hdep ⟨18, .guard⟩ (by simp) rfl).2 34 rfl
            exact .inr ⟨by show (y 18 == some true) = false; rw [yg]; rfl, rfl⟩
          rcases i with _ | i
          · obtain rfl := Option.some.inj ho
            have yg : y 18 = some false := (hdep ⟨18, .guard⟩ (by simp) rfl).2 34 rfl
            exact .inr ⟨by show (y 18 == some true) = false; rw [yg]; rfl, rfl⟩
          rcases i with _ | i
          · obtain rfl := Option.some.inj ho
            have yg : y 18 = some false := (hdep ⟨18, .guard⟩ (by simp) rfl).2 34 rfl
            exact .inr ⟨by show (y 18 == some true) = false; rw [yg]; rfl, rfl⟩
          rcases i with _ | i
          · obtain rfl := Option.some.inj ho
            have yg : y 18 = some false := (hdep ⟨18, .guard⟩ (by simp) rfl).2 34 rfl
            exact .inr ⟨by show (y 18 == some true) = false; rw [yg]; rfl, rfl⟩
          rcases i with _ | i
          · obtain rfl := Option.some.inj ho
            have e18 : ρ (.tmp 34) = .bool false := (hdep ⟨18, .data⟩ (by simp) rfl).1 34 rfl
            have e26 : ρ (.tmp 42) = undef := (hdep ⟨26, .data⟩ (by simp) rfl).1 42 rfl
            have ocn : ∀ v, ρ (.const v) = v := fun v => hout (.const v) rfl
            clear hdep hout
            refine .inl ⟨rfl, (Gives.val ?_ : Gives _ _ _ (.bool false) _)⟩
            go_simp
          rcases i with _ | i
          · obtain rfl := Option.some.inj ho
            have e27 : ρ (.tmp 43) = .bool false := (hdep ⟨27, .data⟩ (by simp) rfl).1 43 rfl
            clear hdep hout
            refine .inl ⟨rfl, (Gives.val ?_ : Gives _ _ _ (.bool false) _)⟩
            go_simp
          cases ho
        case fin =>
          intro x hBx
          have hBf := (HY.out.trans (hBx.mono HY.out.size))
          go_wp2_with fail
          go_ret
          exact ⟨ret_bool (by rw [HV2.out]), hBf⟩
      · cases hb1 : rowF P k0 (callsQ P k0) r1
        · have HV := HF3.out _ _ _ hb0 hb1 rfl
          have HV2 : Hid (F = false) := by show _ = _; rw [HV]; rfl
          clear HV HF3
          refine wp_region_vals (by kernel_rfl) (by kernel_rfl) (by kernel_rfl) (by kernel_rfl) (fun j => [.slice pp pn cp, .pointer (some ⟨x0.heap.size, 0, none⟩), .int .i64 ↑k0, .pointer (some ⟨x0.heap.size, 1, none⟩), .slice (some ⟨g, o, none⟩) 3 cs, .pointer (some ⟨g, o, none⟩), .agg #[.bool r0.o.1, .int .i64 r0.o.2.1, .int .i64 r0.o.2.2, .slice p3 r0.ns c3, .slice p4 r0.nc c4], .bool true, .bool true, .slice pp pn cp, .pointer (some ⟨x0.heap.size, 0, none⟩), .int .i64 ↑k0, .pointer (some ⟨x0.heap.size, 1, none⟩), .slice (some ⟨g, o, none⟩) 3 cs, .pointer (some ⟨g, o + 5, none⟩), .agg #[.bool r1.o.1, .int .i64 r1.o.2.1, .int .i64 r1.o.2.2, .slice q3 r1.ns d3, .slice q4 r1.nc d4], .bool false, .bool false, .bool false, undef, undef, undef, undef, undef, undef, undef, undef, .bool false, .bool false].getD j undef) y (Below.drew (Below.refl _ _)) ?step ⟨#[.slice pp pn cp, .agg #[.int .i64 ↑k0, .slice (some ⟨g, o, none⟩) 3 cs], undef, .pointer (some ⟨x0.heap.size, 0, none⟩), .bool false, .slice pp pn cp, .pointer (some ⟨x0.heap.size, 0, none⟩), .int .i64 ↑k0, .bool true, .bool false, .bool false, .pointer (some ⟨x0.heap.size, 1, none⟩), .slice (some ⟨g, o, none⟩) 3 cs, .int .i64 3, .bool false, .bool false, .slice pp pn cp, .pointer (some ⟨x0.heap.size, 0, none⟩), .int .i64 ↑k0, .pointer (some ⟨x0.heap.size, 1, none⟩), .slice (some ⟨g, o, none⟩) 3 cs, .pointer (some ⟨g, o, none⟩), .agg #[.bool r0.o.1, .int .i64 r0.o.2.1, .int .i64 r0.o.2.2, .slice p3 r0.ns c3, .slice p4 r0.nc c4], .bool true, .bool true, .slice pp pn cp, .pointer (some ⟨x0.heap.size, 0, none⟩), .int .i64 ↑k0, .pointer (some ⟨x0.heap.size, 1, none⟩), .slice (some ⟨g, o, none⟩) 3 cs, .pointer (some ⟨g, o + 5, none⟩), .agg #[.bool r1.o.1, .int .i64 r1.o.2.1, .int .i64 r1.o.2.2, .slice q3 r1.ns d3, .slice q4 r1.nc d4], .bool false, .bool false, .bool false, undef, undef, undef, undef, undef, undef, undef, undef, .bool false], []⟩ (by kernel_rfl) ?fin
          case step =>
            intro i o ho ρ y x hBx hdep hout
            rcases i with _ | i
            · obtain rfl := Option.some.inj ho
              have o0 : ρ (.tmp 0) = .slice pp pn cp := hout (.tmp 0) rfl
              clear hdep hout
              refine .inl ⟨rfl, (Gives.val ?_ : Gives _ _ _ (.slice pp pn cp) _)⟩
              go_simp
            rcases i with _ | i
            · obtain rfl := Option.some.inj ho
              have o3 : ρ (.tmp 3) = .pointer (some ⟨x0.heap.size, 0, none⟩) := hout (.tmp 3) rfl
              clear hdep hout
              refine .inl ⟨rfl, (Gives.val ?_ : Gives _ _ _ (.pointer (some ⟨x0.heap.size, 0, none⟩)) _)⟩
              go_simp
            rcases i with _ | i
            · obtain rfl := Option.some.inj ho
              have e1 : ρ (.tmp 17) = .pointer (some ⟨x0.heap.size, 0, none⟩) := (hdep ⟨1, .data⟩ (by simp) rfl).1 17 rfl
              clear hdep hout
              have kb := KY.out.later hBx
              have c0 := kb.c 0 _ rfl
              have c1 := kb.c 1 _ rfl
              have cl0 := kb.lt
              refine .inl ⟨rfl, (Gives.val ?_ : Gives _ _ _ (.int .i64 ↑k0) _)⟩
              go_simp
            rcases i with _ | i
            · obtain rfl := Option.some.inj ho
              have o3 : ρ (.tmp 3) = .pointer (some ⟨x0.heap.size, 0, none⟩) := hout (.tmp 3) rfl
              clear hdep hout
              refine .inl ⟨rfl, (Gives.val ?_ : Gives _ _ _ (.pointer (some ⟨x0.heap.size, 1, none⟩)) _)⟩
              go_simp
            rcases i with _ | i
            · obtain rfl := Option.some.inj ho
              have e3 : ρ (.tmp 19) = .pointer (some ⟨x0.heap.size, 1, none⟩) := (hdep ⟨3, .data⟩ (by simp) rfl).1 19 rfl
              clear hdep hout
              have kb := KY.out.later hBx
              have c0 := kb.c 0 _ rfl
              have c1 := kb.c 1 _ rfl
              have cl0 := kb.lt
              refine .inl ⟨rfl, (Gives.val ?_ : Gives _ _ _ (.slice (some ⟨g, o, none⟩) 3 cs) _)⟩
              go_simp
            rcases i with _ | i
            · obtain rfl := Option.some.inj ho
              have e4 : ρ (.tmp 20) = .slice (some ⟨g, o, none⟩) 3 cs := (hdep ⟨4, .data⟩ (by simp) rfl).1 20 rfl
              have ocn : ∀ v, ρ (.const v) = v := fun v => hout (.const v) rfl
              clear hdep hout
              refine .inl ⟨rfl, (Gives.val ?_ : Gives _ _ _ (.pointer (some ⟨g, o, none⟩)) _)⟩
              go_simp
            rcases i with _ | i
            · obtain rfl := Option.some.inj ho
              have e5 : ρ (.tmp 21) = .pointer (some ⟨g, o, none⟩) := (hdep ⟨5, .data⟩ (by simp) rfl).1 21 rfl
              clear hdep hout
              have hbz := (HY.out.trans (hBx.mono HY.out.size))
              have m0 := (hbz.cell (p := ⟨g, o, none⟩) hgx).trans z0
              have m1 := (hbz.cell (p := ⟨g, o + 1, none⟩) hgx).trans z1
              have m2 := (hbz.cell (p := ⟨g, o + 2, none⟩) hgx).trans z2
              have m3 := (hbz.cell (p := ⟨g, o + 3, none⟩) hgx).trans z3
              have m4 := (hbz.cell (p := ⟨g, o + 4, none⟩) hgx).trans z4
              refine .inl ⟨rfl, (Gives.val ?_ : Gives _ _ _ (.agg #[.bool r0.o.1, .int .i64 r0.o.2.1, .int .i64 r0.o.2.2, .slice p3 r0.ns c3, .slice p4 r0.nc c4]) _)⟩
              go_simp
            rcases i with _ | i
            · obtain rfl := Option.some.inj ho
              have e0 : ρ (.tmp 16) = .slice pp pn cp := (hdep ⟨0, .data⟩ (by simp) rfl).1 16 rfl
              have e2 : ρ (.tmp 18) = .int .i64 ↑k0 := (hdep ⟨2, .data⟩ (by simp) rfl).1 18 rfl
              have e6 : ρ (.tmp 22) = .agg #[.bool r0.o.1, .int .i64 r0.o.2.1, .int .i64 r0.o.2.2, .slice p3 r0.ns c3, .slice p4 r0.nc c4] := (hdep ⟨6, .data⟩ (by simp) rfl).1 22 rfl
              have ofn : ∀ f, ρ (.func f) = .func (.func f) #[] #[] := fun f => hout (.func f) rfl
              clear hdep hout
              refine .inl ⟨?_, ?_⟩
              · rfl
              show Gives _ _ _ (.bool true) _
              refine Gives.call (HR0.out _ hb0 x (HY.out.trans (hBx.mono HY.out.size))) ?_
              go_simp
            rcases i with _ | i
            · obtain rfl := Option.some.inj ho
              have e7 : ρ (.tmp 23) = .bool true := (hdep ⟨7, .data⟩ (by simp) rfl).1 23 rfl
              clear hdep hout
              refine .inl ⟨rfl, (Gives.val ?_ : Gives _ _ _ (.bool true) _)⟩
              go_simp
            rcases i with _ | i
            · obtain rfl := Option.some.inj ho
              have o0 : ρ (.tmp 0) = .slice pp pn cp := hout (.tmp 0) rfl
              have yg : y 8 = some true := (hdep ⟨8, .guard⟩ (by simp) rfl).2 24 rfl
              clear hdep hout
              refine .inl ⟨(by show (y 8 == some true) = true; rw [yg]; rfl), (Gives.val ?_ : Gives _ _ _ (.slice pp pn cp) _)⟩
              go_simp
            rcases i with _ | i
            · obtain rfl := Option.some.inj ho
              have o3 : ρ (.tmp 3) = .pointer (some ⟨x0.heap.size, 0, none⟩) := hout (.tmp 3) rfl
              have yg : y 8 = some true := (hdep ⟨8, .guard⟩ (by simp) rfl).2 24 rfl
              clear hdep hout
              refine .inl ⟨(by show (y 8 == some true) = true; rw [yg]; rfl), (Gives.val ?_ : Gives _ _ _ (.pointer (some ⟨x0.heap.size, 0, none⟩)) _)⟩
              go_simp
            rcases i with _ | i
            · obtain rfl := Option.some.inj ho
              have e10 : ρ (.tmp 26) = .pointer (some ⟨x0.heap.size, 0, none⟩) := (hdep ⟨10, .data⟩ (by simp) rfl).1 26 rfl
              have yg : y 8 = some true := (hdep ⟨8, .guard⟩ (by simp) rfl).2 24 rfl
              clear hdep hout
              have kb := KY.out.later hBx
              have c0 := kb.c 0 _ rfl
              have c1 := kb.c 1 _ rfl
              have cl0 := kb.lt
              refine .inl ⟨(by show (y 8 == some true) = true; rw [yg]; rfl), (Gives.val ?_ : Gives _ _ _ (.int .i64 ↑k0) _)⟩
              go_simp
            rcases i with _ | i
            · obtain rfl := Option.some.inj ho
              have o3 : ρ (.tmp 3) = .pointer (some ⟨x0.heap.size, 0, none⟩) := hout (.tmp 3) rfl
              have yg : y 8 = some true := (hdep ⟨8, .guard⟩ (by simp) rfl).2 24 rfl
              clear hdep hout
              refine .inl ⟨(by show (y 8 == some true) = true; rw [yg]; rfl), (Gives.val ?_ : Gives _ _ _ (.pointer (some ⟨x0.heap.size, 1, none⟩)) _)⟩
              go_simp
            rcases i with _ | i
            · obtain rfl := Option.some.inj ho
              have e12 : ρ (.tmp 28) = .pointer (some ⟨x0.heap.size, 1, none⟩) := (hdep ⟨12, .data⟩ (by simp) rfl).1 28 rfl
              have yg : y 8 = some true := (hdep ⟨8, .guard⟩ (by simp) rfl).2 24 rfl
              clear hdep hout
              have kb := KY.out.later hBx
              have c0 := kb.c 0 _ rfl
              have c1 := kb.c 1 _ rfl
              have cl0 := kb.lt
              refine .inl ⟨(by show (y 8 == some true) = true; rw [yg]; rfl), (Gives.val ?_ : Gives _ _ _ (.slice (some ⟨g, o, none⟩) 3 cs) _)⟩
              go_simp
            rcases i with _ | i
            · obtain rfl := Option.some.inj ho
              have e13 : ρ (.tmp 29) = .slice (some ⟨g, o, none⟩) 3 cs := (hdep ⟨13, .data⟩ (by simp) rfl).1 29 rfl
              have yg : y 8 = some true := (hdep ⟨8, .guard⟩ (by simp) rfl).2 24 rfl
              have ocn : ∀ v, ρ (.const v) = v := fun v => hout (.const v) rfl
              clear hdep hout
              refine .inl ⟨(by show (y 8 == some true) = true; rw [yg]; rfl), (Gives.val ?_ : Gives _ _ _ (.pointer (some ⟨g, o + 5, none⟩)) _)⟩
              go_simp
            rcases i with _ | i
            · obtain rfl := Option.some.inj ho
              have e14 : ρ (.tmp 30) = .pointer (some ⟨g, o + 5, none⟩) := (hdep ⟨14, .data⟩ (by simp) rfl).1 30 rfl
              have yg : y 8 = some true := (hdep ⟨8, .guard⟩ (by simp) rfl).2 24 rfl
              clear hdep hout
              have hbz := (HY.out.trans (hBx.mono HY.out.size))
              have m0 := (hbz.cell (p := ⟨g, o + 5, none⟩) hgx).trans y0
              have m1 := (hbz.cell (p := ⟨g, o + 6, none⟩) hgx).trans y1
              have m2 := (hbz.cell (p := ⟨g, o + 7, none⟩) hgx).trans y2
              have m3 := (hbz.cell (p := ⟨g, o + 8, none⟩) hgx).trans y3
              have m4 := (hbz.cell (p := ⟨g, o + 9, none⟩) hgx).trans y4
              refine .inl ⟨(by show (y 8 == some true) = true; rw [yg]; rfl), (Gives.val ?_ : Gives _ _ _ (.agg #[.bool r1.o.1, .int .i64 r1.o.2.1, .int .i64 r1.o.2.2, .slice q3 r1.ns d3, .slice q4 r1.nc d4]) _)⟩
              go_simp
            rcases i with _ | i
            · obtain rfl := Option.some.inj ho
              have e9 : ρ (.tmp 25) = .slice pp pn cp := (hdep ⟨9, .data⟩ (by simp) rfl).1 25 rfl
              have e11 : ρ (.tmp 27) = .int .i64 ↑k0 := (hdep ⟨11, .data⟩ (by simp) rfl).1 27 rfl
              have e15 : ρ (.tmp 31) = .agg #[.bool r1.o.1, .int .i64 r1.o.2.1, .int .i64 r1.o.2.2, .slice q3 r1.ns d3, .slice q4 r1.nc d4] := (hdep ⟨15, .data⟩ (by simp) rfl).1 31 rfl
              have yg : y 8 = some true := (hdep ⟨8, .guard⟩ (by simp) rfl).2 24 rfl
              have ofn : ∀ f, ρ (.func f) = .func (.func f) #[] #[] := fun f => hout (.func f) rfl
              clear hdep hout
              refine .inl ⟨?_, ?_⟩
              · show (y 8 == some true) = true
                rw [yg]; rfl
              show Gives _ _ _ (.bool false) _
              refine Gives.call (HR1.out _ hb1 x (HY.out.trans (hBx.mono HY.out.size))) ?_
              go_simp
            rcases i with _ | i
            · obtain rfl := Option.some.inj ho
              have e8 : ρ (.tmp 24) = .bool true := (hdep ⟨8, .data⟩ (by simp) rfl).1 24 rfl
              have e16 : ρ (.tmp 32) = .bool false := (hdep ⟨16, .data⟩ (by simp) rfl).1 32 rfl
              have ocn : ∀ v, ρ (.const v) = v := fun v => hout (.const v) rfl
              clear hdep hout
              refine .inl ⟨rfl, (Gives.val ?_ : Gives _ _ _ (.bool false) _)⟩
              go_simp
            rcases i with _ | i
            · obtain rfl := Option.some.inj ho
              have e17 : ρ (.tmp 33) = .bool false := (hdep ⟨17, .data⟩ (by simp) rfl).1 33 rfl
              clear hdep hout
              refine .inl ⟨rfl, (Gives.val ?_ : Gives _ _ _ (.bool false) _)⟩
              go_simp
            rcases i with _ | i
            · obtain rfl := Option.some.inj ho
              have yg : y 18 = some false := (hdep ⟨18, .guard⟩ (by simp) rfl).2 34 rfl
              exact .inr ⟨by show (y 18 == some true) = false; rw [yg]; rfl, rfl⟩
            rcases i with _ | i
            · obtain rfl := Option.some.inj ho
              have yg : y 18 = some false := (hdep ⟨18, .guard⟩ (by simp) rfl).2 34 rfl
              exact .inr ⟨by show (y 18 == some true) = false; rw [yg]; rfl, rfl⟩
            rcases i with _ | i
            · obtain rfl := Option.some.inj ho
              have yg : y 18 = some false := (hdep ⟨18, .guard⟩ (by simp) rfl).2 34 rfl
              exact .inr ⟨by show (y 18 == some true) = false; rw [yg]; rfl, rfl⟩
            rcases i with _ | i
            · obtain rfl := Option.some.inj ho
              have yg : y 18 = some false := (hdep ⟨18, .guard⟩ (by simp) rfl).2 34 rfl
              exact .inr ⟨by show (y 18 == some true) = false; rw [yg]; rfl, rfl⟩
            rcases i with _ | i
            · obtain rfl := Option.some.inj ho
              have yg : y 18 = some false := (hdep ⟨18, .guard⟩ (by simp) rfl).2 34 rfl
              exact .inr ⟨by show (y 18 == some true) = false; rw [yg]; rfl, rfl⟩
            rcases i with _ | i
            · obtain rfl := Option.some.inj ho
              have yg : y 18 = some false := (hdep ⟨18, .guard⟩ (by simp) rfl).2 34 rfl
              exact .inr ⟨by show (y 18 == some true) = false; rw [yg]; rfl, rfl⟩
            rcases i with _ | i
            · obtain rfl := Option.some.inj ho
              have yg : y 18 = some false := (hdep ⟨18, .guard⟩ (by simp) rfl).2 34 rfl
              exact .inr ⟨by show (y 18 == some true) = false; rw [yg]; rfl, rfl⟩
            rcases i with _ | i
            · obtain rfl := Option.some.inj ho
              have yg : y 18 = some false := (hdep ⟨18, .guard⟩ (by simp) rfl).2 34 rfl
              exact .inr ⟨by show (y 18 == some true) = false; rw [yg]; rfl, rfl⟩
            rcases i with _ | i
            · obtain rfl := Option.some.inj ho
              have e18 : ρ (.tmp 34) = .bool false := (hdep ⟨18, .data⟩ (by simp) rfl).1 34 rfl
              have e26 : ρ (.tmp 42) = undef := (hdep ⟨26, .data⟩ (by simp) rfl).1 42 rfl
              have ocn : ∀ v, ρ (.const v) = v := fun v => hout (.const v) rfl
              clear hdep hout
              refine .inl ⟨rfl, (Gives.val ?_ : Gives _ _ _ (.bool false) _)⟩
              go_simp
            rcases i with _ | i
            · obtain rfl := Option.some.inj ho
              have e27 : ρ (.tmp 43) = .bool false := (hdep ⟨27, .data⟩ (by simp) rfl).1 43 rfl
              clear hdep hout
              refine .inl ⟨rfl, (Gives.val ?_ : Gives _ _ _ (.bool false) _)⟩
              go_simp
            cases ho
          case fin =>
            intro x hBx
            have hBf := (HY.out.trans (hBx.mono HY.out.size))
            go_wp2_with fail
            go_ret
            exact ⟨ret_bool (by rw [HV2.out]), hBf⟩
        · generalize hb2 : rowF P k0 (callsQ P k0) r2 = b2
          have HV := HF3.out _ _ _ hb0 hb1 hb2
          have HV2 : Hid (F = b2) := by show _ = _; rw [HV]; rfl
          clear HV HF3
          refine wp_region_vals (by kernel_rfl) (by kernel_rfl) (by kernel_rfl) (by kernel_rfl) (fun j => [.slice pp pn cp, .pointer (some ⟨x0.heap.size, 0, none⟩), .int .i64 ↑k0, .pointer (some ⟨x0.heap.size, 1, none⟩), .slice (some ⟨g, o, none⟩) 3 cs, .pointer (some ⟨g, o, none⟩), .agg #[.bool r0.o.1, .int .i64 r0.o.2.1, .int .i64 r0.o.2.2, .slice p3 r0.ns c3, .slice p4 r0.nc c4], .bool true, .bool true, .slice pp pn cp, .pointer (some ⟨x0.heap.size, 0, none⟩), .int .i64 ↑k0, .pointer (some ⟨x0.heap.size, 1, none⟩), .slice (some ⟨g, o, none⟩) 3 cs, .pointer (some ⟨g, o + 5, none⟩), .agg #[.bool r1.o.1, .int .i64 r1.o.2.1, .int .i64 r1.o.2.2, .slice q3 r1.ns d3, .slice q4 r1.nc d4], .bool true, .bool true, .bool true, .slice pp pn cp, .pointer (some ⟨x0.heap.size, 0, none⟩), .int .i64 ↑k0, .pointer (some ⟨x0.heap.size, 1, none⟩), .slice (some ⟨g, o, none⟩) 3 cs, .pointer (some ⟨g, o + 10, none⟩), .agg #[.bool r2.o.1, .int .i64 r2.o.2.1, .int .i64 r2.o.2.2, .slice s3 r2.ns e3, .slice s4 r2.nc e4], .bool b2, .bool b2, .bool b2].getD j undef) y (Below.drew (Below.refl _ _)) ?step ⟨#[.slice pp pn cp, .agg #[.int .i64 ↑k0, .slice (some ⟨g, o, none⟩) 3 cs], undef, .pointer (some ⟨x0.heap.size, 0, none⟩), .bool b2, .slice pp pn cp, .pointer (some ⟨x0.heap.size, 0, none⟩), .int .i64 ↑k0, .bool true, .bool false, .bool false, .pointer (some ⟨x0.heap.size, 1, none⟩), .slice (some ⟨g, o, none⟩) 3 cs, .int .i64 3, .bool false, .bool false, .slice pp pn cp, .pointer (some ⟨x0.heap.size, 0, none⟩), .int .i64 ↑k0, .pointer (some ⟨x0.heap.size, 1, none⟩), .slice (some ⟨g, o, none⟩) 3 cs, .pointer (some ⟨g, o, none⟩), .agg #[.bool r0.o.1, .int .i64 r0.o.2.1, .int .i64 r0.o.2.2, .slice p3 r0.ns c3, .slice p4 r0.nc c4], .bool true, .bool true, .slice pp pn cp, .pointer (some ⟨x0.heap.size, 0, none⟩), .int .i64 ↑k0, .pointer (some ⟨x0.heap.size, 1, none⟩), .slice (some ⟨g, o, none⟩) 3 cs, .pointer (some ⟨g, o + 5, none⟩), .agg #[.bool r1.o.1, .int .i64 r1.o.2.1, .int .i64 r1.o.2.2, .slice q3 r1.ns d3, .slice q4 r1.nc d4], .bool true, .bool true, .bool true, .slice pp pn cp, .pointer (some ⟨x0.heap.size, 0, none⟩), .int .i64 ↑k0, .pointer (some ⟨x0.heap.size, 1, none⟩), .slice (some ⟨g, o, none⟩) 3 cs, .pointer (some ⟨g, o + 10, none⟩), .agg #[.bool r2.o.1, .int .i64 r2.o.2.1, .int .i64 r2.o.2.2, .slice s3 r2.ns e3, .slice s4 r2.nc e4], .bool b2, .bool b2], []⟩ (by kernel_rfl) ?fin
          case step =>
            intro i o ho ρ y x hBx hdep hout
            rcases i with _ | i
            · obtain rfl := Option.some.inj ho
              have o0 : ρ (.tmp 0) = .slice pp pn cp := hout (.tmp 0) rfl
              clear hdep hout
              refine .inl ⟨rfl, (Gives.val ?_ : Gives _ _ _ (.slice pp pn cp) _)⟩
              go_simp
            rcases i with _ | i
            · obtain rfl := Option.some.inj ho
              have o3 : ρ (.tmp 3) = .pointer (some ⟨x0.heap.size, 0, none⟩) := hout (.tmp 3) rfl
              clear hdep hout
              refine .inl ⟨rfl, (Gives.val ?_ : Gives _ _ _ (.pointer (some ⟨x0.heap.size, 0, none⟩)) _)⟩
              go_simp
            rcases i with _ | i
            · obtain rfl := Option.some.inj ho
              have e1 : ρ (.tmp 17) = .pointer (some ⟨x0.heap.size, 0, none⟩) := (hdep ⟨1, .data⟩ (by simp) rfl).1 17 rfl
              clear hdep hout
              have kb := KY.out.later hBx
              have c0 := kb.c 0 _ rfl
              have c1 := kb.c 1 _ rfl
              have cl0 := kb.lt
              refine .inl ⟨rfl, (Gives.val ?_ : Gives _ _ _ (.int .i64 ↑k0) _)⟩
              go_simp
            rcases i with _ | i
            · obtain rfl := Option.some.inj ho
              have o3 : ρ (.tmp 3) = .pointer (some ⟨x0.heap.size, 0, none⟩) := hout (.tmp 3) rfl
              clear hdep hout
              refine .inl ⟨rfl, (Gives.val ?_ : Gives _ _ _ (.pointer (some ⟨x0.heap.size, 1, none⟩)) _)⟩
              go_simp
            rcases i with _ | i
            · obtain rfl := Option.some.inj ho
              have e3 : ρ (.tmp 19) = .pointer (some ⟨x0.heap.size, 1, none⟩) := (hdep ⟨3, .data⟩ (by simp) rfl).1 19 rfl
              clear hdep hout
              have kb := KY.out.later hBx
              have c0 := kb.c 0 _ rfl
              have c1 := kb.c 1 _ rfl
              have cl0 := kb.lt
              refine .inl ⟨rfl, (Gives.val ?_ : Gives _ _ _ (.slice (some ⟨g, o, none⟩) 3 cs) _)⟩
              go_simp
            rcases i with _ | i
            · obtain rfl := Option.some.inj ho
              have e4 : ρ (.tmp 20) = .slice (some ⟨g, o, none⟩) 3 cs := (hdep ⟨4, .data⟩ (by simp) rfl).1 20 rfl
              have ocn : ∀ v, ρ (.const v) = v := fun v => hout (.const v) rfl
              clear hdep hout
              refine .inl ⟨rfl, (Gives.val ?_ : Gives _ _ _ (.pointer (some ⟨g, o, none⟩)) _)⟩
              go_simp
            rcases i with _ | i
            · obtain rfl := Option.some.inj ho
              have e5 : ρ (.tmp 21) = .pointer (some ⟨g, o, none⟩) := (hdep ⟨5, .data⟩ (by simp) rfl).1 21 rfl
              clear hdep hout
              have hbz := (HY.out.trans (hBx.mono HY.out.size))
              have m0 := (hbz.cell (p := ⟨g, o, none⟩) hgx).trans z0
              have m1 := (hbz.cell (p := ⟨g, o + 1, none⟩) hgx).trans z1
              have m2 := (hbz.cell (p := ⟨g, o + 2, none⟩) hgx).trans z2
              have m3 := (hbz.cell (p := ⟨g, o + 3, none⟩) hgx).trans z3
              have m4 := (hbz.cell (p := ⟨g, o + 4, none⟩) hgx).trans z4
              refine .inl ⟨rfl, (Gives.val ?_ : Gives _ _ _ (.agg #[.bool r0.o.1, .int .i64 r0.o.2.1, .int .i64 r0.o.2.2, .slice p3 r0.ns c3, .slice p4 r0.nc c4]) _)⟩
              go_simp
            rcases i with _ | i
            · obtain rfl := Option.some.inj ho
              have e0 : ρ (.tmp 16) = .slice pp pn cp := (hdep ⟨0, .data⟩ (by simp) rfl).1 16 rfl
              have e2 : ρ (.tmp 18) = .int .i64 ↑k0 := (hdep ⟨2, .data⟩ (by simp) rfl).1 18 rfl
              have e6 : ρ (.tmp 22) = .agg #[.bool r0.o.1, .int .i64 r0.o.2.1, .int .i64 r0.o.2.2, .slice p3 r0.ns c3, .slice p4 r0.nc c4] := (hdep ⟨6, .data⟩ (by simp) rfl).1 22 rfl
              have ofn : ∀ f, ρ (.func f) = .func (.func f) #[] #[] := fun f => hout (.func f) rfl
              clear hdep hout
              refine .inl ⟨?_, ?_⟩
              · rfl
              show Gives _ _ _ (.bool true) _
              refine Gives.call (HR0.out _ hb0 x (HY.out.trans (hBx.mono HY.out.size))) ?_
              go_simp
            rcases i with _ | i
            · obtain rfl := Option.some.inj ho
              have e7 : ρ (.tmp 23) = .bool true := (hdep ⟨7, .data⟩ (by simp) rfl).1 23 rfl
              clear hdep hout
              refine .inl ⟨rfl, (Gives.val ?_ : Gives _ _ _ (.bool true) _)⟩
              go_simp
            rcases i with _ | i
            · obtain rfl := Option.some.inj ho
              have o0 : ρ (.tmp 0) = .slice pp pn cp := hout (.tmp 0) rfl
              have yg : y 8 = some true := (hdep ⟨8, .guard⟩ (by simp) rfl).2 24 rfl
              clear hdep hout
              refine .inl ⟨(by show (y 8 == some true) = true; rw [yg]; rfl), (Gives.val ?_ : Gives _ _ _ (.slice pp pn cp) _)⟩
              go_simp
            rcases i with _ | i
            · obtain rfl := Option.some.inj ho
              have o3 : ρ (.tmp 3) = .pointer (some ⟨x0.heap.size, 0, none⟩) := hout (.tmp 3) rfl
              have yg : y 8 = some true := (hdep ⟨8, .guard⟩ (by simp) rfl).2 24 rfl
              clear hdep hout
              refine .inl ⟨(by show (y 8 == some true) = true; rw [yg]; rfl), (Gives.val ?_ : Gives _ _ _ (.pointer (some ⟨x0.heap.size, 0, none⟩)) _)⟩
              go_simp
            rcases i with _ | i
            · obtain rfl := Option.some.inj ho
              have e10 : ρ (.tmp 26) = .pointer (some ⟨x0.heap.size, 0, none⟩) := (hdep ⟨10, .data⟩ (by simp) rfl).1 26 rfl
              have yg : y 8 = some true := (hdep ⟨8, .guard⟩ (by simp) rfl).2 24 rfl
              clear hdep hout
              have kb := KY.out.later hBx
              have c0 := kb.c 0 _ rfl
              have c1 := kb.c 1 _ rfl
              have cl0 := kb.lt
              refine .inl ⟨(by show (y 8 == some true) = true; rw [yg]; rfl), (Gives.val ?_ : Gives _ _ _ (.int .i64 ↑k0) _)⟩
              go_simp
            rcases i with _ | i
            · obtain rfl := Option.some.inj ho
              have o3 : ρ (.tmp 3) = .pointer (some ⟨x0.heap.size, 0, none⟩) := hout (.tmp 3) rfl
              have yg : y 8 = some true := (hdep ⟨8, .guard⟩ (by simp) rfl).2 24 rfl
              clear hdep hout
              refine .inl ⟨(by show (y 8 == some true) = true; rw [yg]; rfl), (Gives.val ?_ : Gives _ _ _ (.pointer (some ⟨x0.heap.size, 1, none⟩)) _)⟩
              go_simp
            rcases i with _ | i
            · obtain rfl := Option.some.inj ho
              have e12 : ρ (.tmp 28) = .pointer (some ⟨x0.heap.size, 1, none⟩) := (hdep ⟨12, .data⟩ (by simp) rfl).1 28 rfl
              have yg : y 8 = some true := (hdep ⟨8, .guard⟩ (by simp) rfl).2 24 rfl
              clear hdep hout
              have kb := KY.out.later hBx
              have c0 := kb.c 0 _ rfl
              have c1 := kb.c 1 _ rfl
              have cl0 := kb.lt
              refine .inl ⟨(by show (y 8 == some true) = true; rw [yg]; rfl), (Gives.val ?_ : Gives _ _ _ (.slice (some ⟨g, o, none⟩) 3 cs) _)⟩
              go_simp
            rcases i with _ | i
            · obtain rfl := Option.some.inj ho
              have e13 : ρ (.tmp 29) = .slice (some ⟨g, o, none⟩) 3 cs := (hdep ⟨13, .data⟩ (by simp) rfl).1 29 rfl
              have yg : y 8 = some true := (hdep ⟨8, .guard⟩ (by simp) rfl).2 24 rfl
              have ocn : ∀ v, ρ (.const v) = v := fun v => hout (.const v) rfl
              clear hdep hout
              refine .inl ⟨(by show (y 8 == some true) = true; rw [yg]; rfl), (Gives.val ?_ : Gives _ _ _ (.pointer (some ⟨g, o + 5, none⟩)) _)⟩
              go_simp
            rcases i with _ | i
            · obtain rfl := Option.some.inj ho
              have e14 : ρ (.tmp 30) = .pointer (some ⟨g, o + 5, none⟩) := (hdep ⟨14, .data⟩ (by simp) rfl).1 30 rfl
              have yg : y 8 = some true := (hdep ⟨8, .guard⟩ (by simp) rfl).2 24 rfl
              clear hdep hout
              have hbz := (HY.out.trans (hBx.mono HY.out.size))
              have m0 := (hbz.cell (p := ⟨g, o + 5, none⟩) hgx).trans y0
              have m1 := (hbz.cell (p := ⟨g, o + 6, none⟩) hgx).trans y1
              have m2 := (hbz.cell (p := ⟨g, o + 7, none⟩) hgx).trans y2
              have m3 := (hbz.cell (p := ⟨g, o + 8, none⟩) hgx).trans y3
              have m4 := (hbz.cell (p := ⟨g, o + 9, none⟩) hgx).trans y4
              refine .inl ⟨(by show (y 8 == some true) = true; rw [yg]; rfl), (Gives.val ?_ : Gives _ _ _ (.agg #[.bool r1.o.1, .int .i64 r1.o.2.1, .int .i64 r1.o.2.2, .slice q3 r1.ns d3, .slice q4 r1.nc d4]) _)⟩
              go_simp
            rcases i with _ | i
            · obtain rfl := Option.some.inj ho
              have e9 : ρ (.tmp 25) = .slice pp pn cp := (hdep ⟨9, .data⟩ (by simp) rfl).1 25 rfl
              have e11 : ρ (.tmp 27) = .int .i64 ↑k0 := (hdep ⟨11, .data⟩ (by simp) rfl).1 27 rfl
              have e15 : ρ (.tmp 31) = .agg #[.bool r1.o.1, .int .i64 r1.o.2.1, .int .i64 r1.o.2.2, .slice q3 r1.ns d3, .slice q4 r1.nc d4] := (hdep ⟨15, .data⟩ (by simp) rfl).1 31 rfl
              have yg : y 8 = some true := (hdep ⟨8, .guard⟩ (by simp) rfl).2 24 rfl
              have ofn : ∀ f, ρ (.func f) = .func (.func f) #[] #[] := fun f => hout (.func f) rfl
              clear hdep hout
              refine .inl ⟨?_, ?_⟩
              · show (y 8 == some true) = true
                rw [yg]; rfl
              show Gives _ _ _ (.bool true) _
              refine Gives.call (HR1.out _ hb1 x (HY.out.trans (hBx.mono HY.out.size))) ?_
              go_simp
            rcases i with _ | i
            · obtain rfl := Option.some.inj ho
              have e8 : ρ (.tmp 24) = .bool true := (hdep ⟨8, .data⟩ (by simp) rfl).1 24 rfl
              have e16 : ρ (.tmp 32) = .bool true := (hdep ⟨16, .data⟩ (by simp) rfl).1 32 rfl
              have ocn : ∀ v, ρ (.const v) = v := fun v => hout (.const v) rfl
              clear hdep hout
              refine .inl ⟨rfl, (Gives.val ?_ : Gives _ _ _ (.bool true) _)⟩
              go_simp
            rcases i with _ | i
            · obtain rfl := Option.some.inj ho
              have e17 : ρ (.tmp 33) = .bool true := (hdep ⟨17, .data⟩ (by simp) rfl).1 33 rfl
              clear hdep hout
              refine .inl ⟨rfl, (Gives.val ?_ : Gives _ _ _ (.bool true) _)⟩
              go_simp
            rcases i with _ | i
            · obtain rfl := Option.some.inj ho
              have o0 : ρ (.tmp 0) = .slice pp pn cp := hout (.tmp 0) rfl
              have yg : y 18 = some true := (hdep ⟨18, .guard⟩ (by simp) rfl).2 34 rfl
              clear hdep hout
              refine .inl ⟨(by show (y 18 == some true) = true; rw [yg]; rfl), (Gives.val ?_ : Gives _ _ _ (.slice pp pn cp) _)⟩
              go_simp
            rcases i with _ | i
            · obtain rfl := Option.some.inj ho
              have o3 : ρ (.tmp 3) = .pointer (some ⟨x0.heap.size, 0, none⟩) := hout (.tmp 3) rfl
              have yg : y 18 = some true := (hdep ⟨18, .guard⟩ (by simp) rfl).2 34 rfl
              clear hdep hout
              refine .inl ⟨(by show (y 18 == some true) = true; rw [yg]; rfl), (Gives.val ?_ : Gives _ _ _ (.pointer (some ⟨x0.heap.size, 0, none⟩)) _)⟩
              go_simp
            rcases i with _ | i
            · obtain rfl := Option.some.inj ho
              have e20 : ρ (.tmp 36) = .pointer (some ⟨x0.heap.size, 0, none⟩) := (hdep ⟨20, .data⟩ (by simp) rfl).1 36 rfl
              have yg : y 18 = some true := (hdep ⟨18, .guard⟩ (by simp) rfl).2 34 rfl
              clear hdep hout
              have kb := KY.out.later hBx
              have c0 := kb.c 0 _ rfl
              have c1 := kb.c 1 _ rfl
              have cl0 := kb.lt
              refine .inl ⟨(by show (y 18 == some true) = true; rw [yg]; rfl), (Gives.val ?_ : Gives _ _ _ (.int .i64 ↑k0) _)⟩
              go_simp
            rcases i with _ | i
            · obtain rfl := Option.some.inj ho
              have o3 : ρ (.tmp 3) = .pointer (some ⟨x0.heap.size, 0, none⟩) := hout (.tmp 3) rfl
              have yg : y 18 = some true := (hdep ⟨18, .guard⟩ (by simp) rfl).2 34 rfl
              clear hdep hout
              refine .inl ⟨(by show (y 18 == some true) = true; rw [yg]; rfl), (Gives.val ?_ : Gives _ _ _ (.pointer (some ⟨x0.heap.size, 1, none⟩)) _)⟩
              go_simp
            rcases i with _ | i
            · obtain rfl := Option.some.inj ho
              have e22 : ρ (.tmp 38) = .pointer (some ⟨x0.heap.size, 1, none⟩) := (hdep ⟨22, .data⟩ (by simp) rfl).1 38 rfl
              have yg : y 18 = some true := (hdep ⟨18, .guard⟩ (by simp) rfl).2 34 rfl
              clear hdep hout
              have kb := KY.out.later hBx
              have c0 := kb.c 0 _ rfl
              have c1 := kb.c 1 _ rfl
              have cl0 := kb.lt
              refine .inl ⟨(by show (y 18 == some true) = true; rw [yg]; rfl), (Gives.val ?_ : Gives _ _ _ (.slice (some ⟨g, o, none⟩) 3 cs) _)⟩
              go_simp
            rcases i with _ | i
            · obtain rfl := Option.some.inj ho
              have e23 : ρ (.tmp 39) = .slice (some ⟨g, o, none⟩) 3 cs := (hdep ⟨23, .data⟩ (by simp) rfl).1 39 rfl
              have yg : y 18 = some true := (hdep ⟨18, .guard⟩ (by simp) rfl).2 34 rfl
              have ocn : ∀ v, ρ (.const v) = v := fun v => hout (.const v) rfl
              clear hdep hout
              refine .inl ⟨(by show (y 18 == some true) = true; rw [yg]; rfl), (Gives.val ?_ : Gives _ _ _ (.pointer (some ⟨g, o + 10, none⟩)) _)⟩
              go_simp
            rcases i with _ | i
            · obtain rfl := Option.some.inj ho
              have e24 : ρ (.tmp 40) = .pointer (some ⟨g, o + 10, none⟩) := (hdep ⟨24, .data⟩ (by simp) rfl).1 40 rfl
              have yg : y 18 = some true := (hdep ⟨18, .guard⟩ (by simp) rfl).2 34 rfl
              clear hdep hout
              have hbz := (HY.out.trans (hBx.mono HY.out.size))
              have m0 := (hbz.cell (p := ⟨g, o + 10, none⟩) hgx).trans x1
              have m1 := (hbz.cell (p := ⟨g, o + 11, none⟩) hgx).trans x2
              have m2 := (hbz.cell (p := ⟨g, o + 12, none⟩) hgx).trans x3
              have m3 := (hbz.cell (p := ⟨g, o + 13, none⟩) hgx).trans x4
              have m4 := (hbz.cell (p := ⟨g, o + 14, none⟩) hgx).trans x5
              refine .inl ⟨(by show (y 18 == some true) = true; rw [yg]; rfl), (Gives.val ?_ : Gives _ _ _ (.agg #[.bool r2.o.1, .int .i64 r2.o.2.1, .int .i64 r2.o.2.2, .slice s3 r2.ns e3, .slice s4 r2.nc e4]) _)⟩
              go_simp
            rcases i with _ | i
            · obtain rfl := Option.some.inj ho
              have e19 : ρ (.tmp 35) = .slice pp pn cp := (hdep ⟨19, .data⟩ (by simp) rfl).1 35 rfl
              have e21 : ρ (.tmp 37) = .int .i64 ↑k0 := (hdep ⟨21, .data⟩ (by simp) rfl).1 37 rfl
              have e25 : ρ (.tmp 41) = .agg #[.bool r2.o.1, .int .i64 r2.o.2.1, .int .i64 r2.o.2.2, .slice s3 r2.ns e3, .slice s4 r2.nc e4] := (hdep ⟨25, .data⟩ (by simp) rfl).1 41 rfl
              have yg : y 18 = some true := (hdep ⟨18, .guard⟩ (by simp) rfl).2 34 rfl
              have ofn : ∀ f, ρ (.func f) = .func (.func f) #[] #[] := fun f => hout (.func f) rfl
              clear hdep hout
              refine .inl ⟨?_, ?_⟩
              · show (y 18 == some true) = true
                rw [yg]; rfl
              show Gives _ _ _ (.bool b2) _
              refine Gives.call (HR2.out _ hb2 x (HY.out.trans (hBx.mono HY.out.size))) ?_
              go_simp
            rcases i with _ | i
            · obtain rfl := Option.some.inj ho
              have e18 : ρ (.tmp 34) = .bool true := (hdep ⟨18, .data⟩ (by simp) rfl).1 34 rfl
              have e26 : ρ (.tmp 42) = .bool b2 := (hdep ⟨26, .data⟩ (by simp) rfl).1 42 rfl
              have ocn : ∀ v, ρ (.const v) = v := fun v => hout (.const v) rfl
              clear hdep hout
              refine .inl ⟨rfl, (Gives.val ?_ : Gives _ _ _ (.bool b2) _)⟩
              go_simp
            rcases i with _ | i
            · obtain rfl := Option.some.inj ho
              have e27 : ρ (.tmp 43) = .bool b2 := (hdep ⟨27, .data⟩ (by simp) rfl).1 43 rfl
              clear hdep hout
              refine .inl ⟨rfl, (Gives.val ?_ : Gives _ _ _ (.bool b2) _)⟩
              go_simp
            cases ho
          case fin =>
            intro x hBx
            have hBf := (HY.out.trans (hBx.mono HY.out.size))
            go_wp2_with fail
            go_ret
            exact ⟨ret_bool (by rw [HV2.out]), hBf⟩
    · have h3i : ((rn : Int) != 3) = true := by
        rw [bne_iff_ne]; omega
      have HNO : Hid (F = false) := by show _ = _; rw [HF.out]; simp [h3]
      clear HF
      go_wp2_with fail
      go_ret
      exact ⟨ret_bool (by rw [HNO.out]), HY.out⟩

end Go.Proofs.YtlkebkajdlgebaaGreat

/-
  What a procedure calls, as rows of sums ask for it: the contract of callsOf in the form of CallsOfIs.
-/
namespace Go.Proofs.YtlkebkajdlgebaaGreat
open Go.RowKit
set_option linter.unusedVariables false
set_option linter.unusedSimpArgs false

theorem callsOf_is (B : Nat) (P : List (List I4)) (hok : progOkF P = true) (k : Nat) (hk : k < P.length) : CallsOfIs B (P.getD k []) (calledF (P.getD k [])) := by
  intro y uc hc
  have HI := progOkF_code hok hk
  have hl4 := (progOkF_len hok).2
  refine (callsOf_set y B uc _ hc P.length HI.2 HI.1 hl4).mono ?_
  rintro e z ⟨v, rfl, hown, hb⟩
  refine ⟨v, _, rfl, hown.ints.any, fun m => ?_, hb⟩
  have h := callsL_mem (P.getD k []) P.length (fun x hx => called_in HI.2 x hx) m
  rw [Bool.eq_iff_iff, decide_eq_true_eq]
  exact h

end Go.Proofs.YtlkebkajdlgebaaGreat

/-
  The walk of the exact law of SumOk.
-/
namespace Go.Proofs.YtlkebkajdlgebaaGreat
open Go.RowKit
set_option linter.unusedVariables false
set_option linter.unusedSimpArgs false

theorem ProgAt.lowerM {x : World} {B C : Nat} {v : Value} {P : List (List I4)} (h : ProgAt x B v P) (hc : C ≤ B) : ProgAt x C v P := by
  obtain ⟨p, cap, hv, hm, hq⟩ := h
  refine ⟨p, cap, hv, hm, hq.imp id ?_⟩
  rintro ⟨g, o, hp, hB, hg, hj⟩
  exact ⟨g, o, hp, by omega, hg, fun j h => by obtain ⟨u, hu, hcu⟩ := hj j h; exact ⟨u, hu, hcu.lower hc⟩⟩
/-- a sum whose rows lie somewhere -/
def SumU (n1 : Int) (R : List Rw) (v : Value) (x : World) : Prop := ∃ s, v = .agg #[.int .i64 n1, s] ∧ RowsAt x s R
theorem SumU.later {n1 : Int} {R : List Rw} {v : Value} {x y : World} (h : SumU n1 R v x) (hb : Below x.heap.size x y) : SumU n1 R v y := by
  obtain ⟨s, e, hs⟩ := h
  exact ⟨s, e, hs.later hb⟩

set_option maxRecDepth 100000 in
set_option maxHeartbeats 8000000 in
theorem exactSumOk_walk (s0 : Option Addr) (n0 cap0 : Nat) (P : List (List I4)) (n1 : Int) (sv : Value) (R : List Rw) (w : World) (hP : ProgAt w 0 (.slice s0 n0 cap0) P) (hS : RowsAt w sv R) :
    Calls Tryz.prog 3 #[.slice s0 n0 cap0, .agg #[.int .i64 n1, sv]] w fun e w' => e = .returned (.bool true) ∧ Below w.heap.size w w' := by
  obtain ⟨ps, cs, rfl, hm⟩ := hS.shape
  have HP : Hid (ProgAt w 0 (.slice s0 n0 cap0) P) := hP
  have HS : Hid (RowsAt w (.slice ps R.length cs) R) := hS
  have HF : Hid (∀ (z : World) (v : Value), ProgAt z 0 v P → ∀ (s : Value), RowsAt z s R → Calls Tryz.prog 9 #[v, .agg #[.int .i64 n1, s]] z fun e y => e = .returned (.bool (progOkF P && sumF P (callsQ P) ⟨n1, R⟩)) ∧ Below z.heap.size z y) :=
    fun z v hp s hs => sumOk_spec z 0 v P hp ⟨n1, R⟩ s hs
  have HFI : Hid (∀ (z : World) (v : Value), ProgAt z 0 v P → ∀ (s : Value), RowsAt z s R → Calls Tryz.prog 12 #[v, .agg #[.int .i64 n1, s]] z fun e y => e = .returned (.bool (progOkF P && sumF P (callsQ P) ⟨n1, R⟩)) ∧ Below z.heap.size z y) :=
    fun z v hp s hs => sumOk_impl z 0 v P hp ⟨n1, R⟩ s hs (callsQ P) (fun hok k hk => callsOf_is 0 P hok k hk)
  generalize (progOkF P && sumF P (callsQ P) ⟨n1, R⟩) = G at HF HFI
  have hgg : (G == G) = true := by cases G <;> rfl
  have hgg2 : (G != G) = false := by cases G <;> rfl
  have HLE : Hid (R.length ≤ maxLen) := hm
  generalize hfn : R.length = fn at HS HLE
  have HFN : Hid (R.length = fn) := hfn
  clear hP hS hfn hm
  go_enter Tryz.func3, Tryz.ntmps3
  go_wp2_with fail
  generalize hX : w.alloc (.cells #[.int .i64 n1, .slice ps fn cs] 25) = X
  have HXB : Hid (Below w.heap.size w X) := by show Below w.heap.size w X; rw [← hX]; exact (Below.refl _ _).alloc (Nat.le_refl _) _
  have HXX : Hid (BxN X w.heap.size [.int .i64 n1, .slice ps fn cs]) := by show BxN _ _ _; rw [← hX]; exact BxN.new w [_, _] _
  clear hX
  refine (szProcS_any _ 0 _ P (HP.out.later HXB.out)).mono ?_
  rintro e w1 ⟨r, rfl, hr, hr1, hb1⟩
  have HR : Hid (0 ≤ r → P.length ≤ 1048576 ∧ ∀ j, j < P.length → (P.getD j []).length ≤ 1048576) := hr
  have HB1 : Hid (Below w.heap.size w w1) := HXB.out.trans (hb1.mono HXB.out.size)
  have HX1 := HXX.out.laterH hb1
  clear hr hb1 HXB HXX
  by_cases hneg : r < 0
  · go_wp2_with fail
    go_ret
    exact ⟨rfl, HB1.out⟩
  have HN : Hid (P.length ≤ 1048576 ∧ ∀ j, j < P.length → (P.getD j []).length ≤ 1048576) := HR.out (by omega)
  have h0r : 0 ≤ r := by omega
  clear HR
  have b0 := HX1.out.c 0 _ rfl
  have b1 := HX1.out.c 1 _ rfl
  have bl := HX1.out.lt
  go_wp2_with fail
  refine (szSum_any _ n1 _ R (HS.out.later HB1.out) r h0r hr1).mono ?_
  rintro e w2 ⟨r2, rfl, hq, hq1, hb2⟩
  have HR2 : Hid (0 ≤ r2 → rowsSz R) := hq
  have HB2 : Hid (Below w.heap.size w w2) := HB1.out.trans (hb2.mono HB1.out.size)
  have HX2 := HX1.out.laterH hb2
  clear hq hb2 HB1 HX1 b0 b1 bl
  by_cases hneg2 : r2 < 0
  · go_wp2_with fail
    go_ret
    exact ⟨rfl, HB2.out⟩
  have HLN : Hid (rowsSz R) := HR2.out (by omega)
  clear HR2 h0r hr1 hq1
  go_wp2_with fail
  refine wp_region_preds (by kernel_rfl) (by kernel_rfl) (by kernel_rfl) (by kernel_rfl) (fun j => [(fun v _ => v = .slice s0 n0 cap0), (fun v x => ProgAt x 0 v P), (fun v _ => v = .agg #[.int .i64 n1, .slice ps fn cs]), (fun v x => SumU n1 R v x), (fun v _ => v = .bool G), (fun v _ => v = .bool G)].getD j (fun _ _ => True)) ?stable w2 ((Below.refl _ _).drew) ?step (fun V => ⟨List.toArray ((.slice s0 n0 cap0) :: (.agg #[.int .i64 n1, .slice ps fn cs]) :: (undef) :: (.pointer (some ⟨w.heap.size, 0, none⟩)) :: (.bool false) :: (.int .i64 r2) :: (V 5) :: (undef) :: (undef) :: (undef) :: (.slice s0 n0 cap0) :: (.int .i64 1048576) :: (.int .i64 r) :: (.int .i64 r) :: (.bool (decide (r < 0))) :: (.agg #[.int .i64 n1, .slice ps fn cs]) :: (.int .i64 r) :: (.int .i64 r2) :: (.int .i64 r2) :: (.bool (decide (r2 < 0))) :: (V 0) :: (V 1) :: (V 2) :: (V 3) :: (V 4) :: (undef) :: (undef) :: (undef) :: (undef) :: (undef) :: (undef) :: (undef) :: (undef) :: (undef) :: (undef) :: (undef) :: (undef) :: (undef) :: (undef) :: (undef) :: (undef) :: (undef) :: (undef) :: (undef) :: (undef) :: []), []⟩) (fun V => by kernel_rfl) ?last
  case stable =>
    intro i v x y ht hb
    rcases i with _ | i
    · exact ht
    rcases i with _ | i
    · exact (ProgAt.later ht hb)
    rcases i with _ | i
    · exact ht
    rcases i with _ | i
    · exact (SumU.later ht hb)
    rcases i with _ | i
    · exact ht
    rcases i with _ | i
    · exact ht
    exact trivial
  case step =>
    intro i o ho ρ y x hBx hdep hout
    rcases i with _ | i
    · obtain rfl := Option.some.inj ho
      have o0 : ρ (.tmp 0) = .slice s0 n0 cap0 := hout (.tmp 0) rfl
      have ocn : ∀ v, ρ (.const v) = v := fun v => hout (.const v) rfl
      have ofn : ∀ f, ρ (.func f) = .func (.func f) #[] #[] := fun f => hout (.func f) rfl
      clear hdep hout
      refine .inl ⟨rfl, ?_⟩
      show GivesP _ _ _ (fun v _ => v = .slice s0 n0 cap0) _
      refine GivesP.val (.slice s0 n0 cap0) rfl ?_
      go_simp
    rcases i with _ | i
    · obtain rfl := Option.some.inj ho
      have e0 : ρ (.tmp 20) = .slice s0 n0 cap0 := (hdep ⟨0, .data⟩ (by simp) rfl 20 rfl).1
      have ocn : ∀ v, ρ (.const v) = v := fun v => hout (.const v) rfl
      have ofn : ∀ f, ρ (.func f) = .func (.func f) #[] #[] := fun f => hout (.func f) rfl
      clear hdep hout
      refine .inl ⟨rfl, ?_⟩
      show GivesP _ _ _ (fun v x => ProgAt x 0 v P) _
      refine GivesP.call ((toProcS_any x 0 _ P ((HP.out.later HB2.out).later hBx) HN.out.1 HN.out.2).mono fun e w9 h9 => ⟨h9.choose, h9.choose_spec.1, h9.choose_spec.2.1.lowerM (Nat.zero_le _), h9.choose_spec.2.2⟩) ?_
      go_simp
    rcases i with _ | i
    · obtain rfl := Option.some.inj ho
      have o3 : ρ (.tmp 3) = .pointer (some ⟨w.heap.size, 0, none⟩) := hout (.tmp 3) rfl
      have ocn : ∀ v, ρ (.const v) = v := fun v => hout (.const v) rfl
      have ofn : ∀ f, ρ (.func f) = .func (.func f) #[] #[] := fun f => hout (.func f) rfl
      clear hdep hout
      refine .inl ⟨rfl, ?_⟩
      have kb := HX2.out.later hBx
      have c0 := kb.c 0 _ rfl
      have c1 := kb.c 1 _ rfl
      have cl0 := kb.lt
      show GivesP _ _ _ (fun v _ => v = .agg #[.int .i64 n1, .slice ps fn cs]) _
      refine GivesP.val (.agg #[.int .i64 n1, .slice ps fn cs]) rfl ?_
      go_simp
    rcases i with _ | i
    · obtain rfl := Option.some.inj ho
      have e2 : ρ (.tmp 22) = .agg #[.int .i64 n1, .slice ps fn cs] := (hdep ⟨2, .data⟩ (by simp) rfl 22 rfl).1
      have ocn : ∀ v, ρ (.const v) = v := fun v => hout (.const v) rfl
      have ofn : ∀ f, ρ (.func f) = .func (.func f) #[] #[] := fun f => hout (.func f) rfl
      clear hdep hout
      refine .inl ⟨rfl, ?_⟩
      show GivesP _ _ _ (fun v x => SumU n1 R v x) _
      refine GivesP.call ((toSum_new x n1 _ R ((HS.out.later HB2.out).later hBx) HLN.out).mono fun e w9 h9 => ⟨_, h9.choose_spec.1, ⟨_, rfl, h9.choose_spec.2.1.rows⟩, h9.choose_spec.2.2⟩) ?_
      go_simp
    rcases i with _ | i
    · obtain rfl := Option.some.inj ho
      have t1 := (hdep ⟨1, .data⟩ (by simp) rfl 21 rfl).1
      have t1 : (fun v x => ProgAt x 0 v P) (ρ (.tmp 21)) x := t1
      obtain t1 := t1
      have t3 := (hdep ⟨3, .data⟩ (by simp) rfl 23 rfl).1
      have t3 : (fun v x => SumU n1 R v x) (ρ (.tmp 23)) x := t3
      obtain ⟨q3, e3, k3⟩ := t3
      have ocn : ∀ v, ρ (.const v) = v := fun v => hout (.const v) rfl
      have ofn : ∀ f, ρ (.func f) = .func (.func f) #[] #[] := fun f => hout (.func f) rfl
      clear hdep hout
      refine .inl ⟨rfl, ?_⟩
      show GivesP _ _ _ (fun v _ => v = .bool G) _
      refine GivesP.call ((HF.out x _ t1 _ k3).mono fun e w9 h9 => ⟨_, h9.1, rfl, h9.2⟩) ?_
      go_simp
    rcases i with _ | i
    · obtain rfl := Option.some.inj ho
      have e4 : ρ (.tmp 24) = .bool G := (hdep ⟨4, .data⟩ (by simp) rfl 24 rfl).1
      have ocn : ∀ v, ρ (.const v) = v := fun v => hout (.const v) rfl
      have ofn : ∀ f, ρ (.func f) = .func (.func f) #[] #[] := fun f => hout (.func f) rfl
      clear hdep hout
      refine .inl ⟨rfl, ?_⟩
      show GivesP _ _ _ (fun v _ => v = .bool G) _
      refine GivesP.val (.bool G) rfl ?_
      go_simp
    cases ho
  case last =>
    intro V w3 hBx hV
    have e5 : V 5 = .bool G := hV 5 (by simp)
    clear hV
    rw [e5]
    have HB3 : Hid (Below w.heap.size w w3) := HB2.out.trans (hBx.mono HB2.out.size)
    have HX3 := HX2.out.laterH hBx
    clear hBx HB2 HX2
    go_wp2_with fail
    refine (toProcS_any _ 0 _ P (HP.out.later HB3.out) HN.out.1 HN.out.2).mono ?_
    rintro e w4 ⟨u4, rfl, hP4, hb4⟩
    have HB4 : Hid (Below w.heap.size w w4) := HB3.out.trans (hb4.mono HB3.out.size)
    have HX4 := HX3.out.laterH hb4
    have HP4 : Hid (ProgAt w4 0 u4 P) := hP4.lowerM (Nat.zero_le _)
    clear hb4 hP4 HB3 HX3
    have b0 := HX4.out.c 0 _ rfl
    have b1 := HX4.out.c 1 _ rfl
    have bl := HX4.out.lt
    go_wp2_with fail
    refine (toSum_new w4 n1 _ R (HS.out.later HB4.out) HLN.out).mono ?_
    rintro e w5 ⟨v5, rfl, hF5, hb5⟩
    obtain ⟨p5, k5, rfl, _⟩ := hF5.rows.shape
    rw [HFN.out] at hF5 ⊢
    have HB5 : Hid (Below w.heap.size w w5) := HB4.out.trans (hb5.mono HB4.out.size)
    have HX5 := HX4.out.laterH hb5
    have HP5 : Hid (ProgAt w5 0 u4 P) := HP4.out.later hb5
    have HF5 : Hid (RowsAt w5 (.slice p5 fn k5) R) := hF5.rows
    clear hb5 hF5 HB4 HX4 HP4 b0 b1 bl
    go_wp2_with fail
    generalize hY : w5.alloc (.cells #[.int .i64 n1, .slice p5 fn k5] 33) = w6
    have hYB : Below w5.heap.size w5 w6 := by rw [← hY]; exact (Below.refl _ _).alloc (Nat.le_refl _) _
    have HK6 : Hid (BxN w6 w5.heap.size [.int .i64 n1, .slice p5 fn k5]) := by show BxN _ _ _; rw [← hY]; exact BxN.new w5 [_, _] _
    have HB6 : Hid (Below w.heap.size w w6) := HB5.out.trans (hYB.mono HB5.out.size)
    have HX6 := HX5.out.laterH hYB
    have HP6 : Hid (ProgAt w6 0 u4 P) := HP5.out.later hYB
    have HF6 : Hid (RowsAt w6 (.slice p5 fn k5) R) := HF5.out.later hYB
    clear hY hYB HB5 HX5 HP5 HF5
    refine (HFI.out w6 _ HP6.out _ HF6.out).mono ?_
    rintro e w7 ⟨rfl, hb7⟩
    have HK7 := HK6.out.laterH hb7
    have HB7 : Hid (Below w.heap.size w w7) := HB6.out.trans (hb7.mono HB6.out.size)
    have HX7 := HX6.out.laterH hb7
    have HP7 : Hid (ProgAt w7 0 u4 P) := HP6.out.later hb7
    have HF7 : Hid (RowsAt w7 (.slice p5 fn k5) R) := HF6.out.later hb7
    clear hb7 HK6 HB6 HX6 HP6 HF6 HF HFI
    go_wp2_with fail
    refine (toProcS_any _ 0 _ P (HP.out.later HB7.out) HN.out.1 HN.out.2).mono ?_
    rintro e w9 ⟨u9, rfl, hP9, hb9⟩
    have HK9 := HK7.out.laterH hb9
    have HB9 : Hid (Below w.heap.size w w9) := HB7.out.trans (hb9.mono HB7.out.size)
    have HX9 := HX7.out.laterH hb9
    have HP9 : Hid (ProgAt w9 0 u4 P) := HP7.out.later hb9
    have HF9 : Hid (RowsAt w9 (.slice p5 fn k5) R) := HF7.out.later hb9
    clear hb9 HK7 HB7 HX7 HP7 HF7
    go_wp2_with fail
    refine (eqProcS_same w9 _ _ u4 u9 P HP9.out hP9).mono ?_
    rintro e wa ⟨rfl, hba⟩
    have HKA := HK9.out.laterH hba
    have HBA : Hid (Below w.heap.size w wa) := HB9.out.trans (hba.mono HB9.out.size)
    have HXA := HX9.out.laterH hba
    have HFA : Hid (RowsAt wa (.slice p5 fn k5) R) := HF9.out.later hba
    clear hba HK9 HB9 HX9 HP9 HF9 hP9
    go_wp2_with fail
    refine wp_region_preds (by kernel_rfl) (by kernel_rfl) (by kernel_rfl) (by kernel_rfl) (fun j => [(fun v _ => v = .agg #[.int .i64 n1, .slice p5 fn k5]), (fun v _ => v = .agg #[.int .i64 n1, .slice ps fn cs]), (fun v x => SumU n1 R v x), (fun v _ => v = .bool true), (fun v _ => v = .bool false)].getD j (fun _ _ => True)) ?stable wa ((Below.refl _ _).drew) ?step (fun U => ⟨List.toArray ((.slice s0 n0 cap0) :: (.agg #[.int .i64 n1, .slice ps fn cs]) :: (undef) :: (.pointer (some ⟨w.heap.size, 0, none⟩)) :: (.bool false) :: (.int .i64 r2) :: (.bool G) :: (u4) :: (.pointer (some ⟨w5.heap.size, 0, none⟩)) :: (.bool G) :: (.slice s0 n0 cap0) :: (.int .i64 1048576) :: (.int .i64 r) :: (.int .i64 r) :: (.bool (decide (r < 0))) :: (.agg #[.int .i64 n1, .slice ps fn cs]) :: (.int .i64 r) :: (.int .i64 r2) :: (.int .i64 r2) :: (.bool (decide (r2 < 0))) :: (V 0) :: (V 1) :: (V 2) :: (V 3) :: (V 4) :: (.slice s0 n0 cap0) :: (u4) :: (.agg #[.int .i64 n1, .slice ps fn cs]) :: (.agg #[.int .i64 n1, .slice p5 fn k5]) :: (u4) :: (.agg #[.int .i64 n1, .slice p5 fn k5]) :: (.bool G) :: (.bool G) :: (.bool G) :: (.bool false) :: (u4) :: (.slice s0 n0 cap0) :: (u9) :: (.bool true) :: (.bool false) :: (U 0) :: (U 1) :: (U 2) :: (U 3) :: (U 4) :: []), []⟩) (fun U => by kernel_rfl) ?last
    case stable =>
      intro i v x y ht hb
      rcases i with _ | i
      · exact ht
      rcases i with _ | i
      · exact ht
      rcases i with _ | i
      · exact (SumU.later ht hb)
      rcases i with _ | i
      · exact ht
      rcases i with _ | i
      · exact ht
      exact trivial
    case step =>
      intro i o ho ρ y x hBx hdep hout
      rcases i with _ | i
      · obtain rfl := Option.some.inj ho
        have o8 : ρ (.tmp 8) = .pointer (some ⟨w5.heap.size, 0, none⟩) := hout (.tmp 8) rfl
        have ocn : ∀ v, ρ (.const v) = v := fun v => hout (.const v) rfl
        have ofn : ∀ f, ρ (.func f) = .func (.func f) #[] #[] := fun f => hout (.func f) rfl
        clear hdep hout
        refine .inl ⟨rfl, ?_⟩
        have kb := HKA.out.later hBx
        have c0 := kb.c 0 _ rfl
        have c1 := kb.c 1 _ rfl
        have cl0 := kb.lt
        show GivesP _ _ _ (fun v _ => v = .agg #[.int .i64 n1, .slice p5 fn k5]) _
        refine GivesP.val (.agg #[.int .i64 n1, .slice p5 fn k5]) rfl ?_
        go_simp
      rcases i with _ | i
      · obtain rfl := Option.some.inj ho
        have o3 : ρ (.tmp 3) = .pointer (some ⟨w.heap.size, 0, none⟩) := hout (.tmp 3) rfl
        have ocn : ∀ v, ρ (.const v) = v := fun v => hout (.const v) rfl
        have ofn : ∀ f, ρ (.func f) = .func (.func f) #[] #[] := fun f => hout (.func f) rfl
        clear hdep hout
        refine .inl ⟨rfl, ?_⟩
        have kb := HXA.out.later hBx
        have c0 := kb.c 0 _ rfl
        have c1 := kb.c 1 _ rfl
        have cl0 := kb.lt
        show GivesP _ _ _ (fun v _ => v = .agg #[.int .i64 n1, .slice ps fn cs]) _
        refine GivesP.val (.agg #[.int .i64 n1, .slice ps fn cs]) rfl ?_
        go_simp
      rcases i with _ | i
      · obtain rfl := Option.some.inj ho
        have e1 : ρ (.tmp 41) = .agg #[.int .i64 n1, .slice ps fn cs] := (hdep ⟨1, .data⟩ (by simp) rfl 41 rfl).1
        have ocn : ∀ v, ρ (.const v) = v := fun v => hout (.const v) rfl
        have ofn : ∀ f, ρ (.func f) = .func (.func f) #[] #[] := fun f => hout (.func f) rfl
        clear hdep hout
        refine .inl ⟨rfl, ?_⟩
        show GivesP _ _ _ (fun v x => SumU n1 R v x) _
        refine GivesP.call ((toSum_new x n1 _ R ((HS.out.later HBA.out).later hBx) HLN.out).mono fun e w9 h9 => ⟨_, h9.choose_spec.1, ⟨_, rfl, h9.choose_spec.2.1.rows⟩, h9.choose_spec.2.2⟩) ?_
        go_simp
      rcases i with _ | i
      · obtain rfl := Option.some.inj ho
        have e0 : ρ (.tmp 40) = .agg #[.int .i64 n1, .slice p5 fn k5] := (hdep ⟨0, .data⟩ (by simp) rfl 40 rfl).1
        have t2 := (hdep ⟨2, .data⟩ (by simp) rfl 42 rfl).1
        have t2 : (fun v x => SumU n1 R v x) (ρ (.tmp 42)) x := t2
        obtain ⟨q2, e2, k2⟩ := t2
        have ocn : ∀ v, ρ (.const v) = v := fun v => hout (.const v) rfl
        have ofn : ∀ f, ρ (.func f) = .func (.func f) #[] #[] := fun f => hout (.func f) rfl
        clear hdep hout
        refine .inl ⟨rfl, ?_⟩
        show GivesP _ _ _ (fun v _ => v = .bool true) _
        refine GivesP.call ((eqSum_any x n1 R _ _ (HFA.out.later hBx) k2).mono fun e w9 h9 => ⟨_, h9.1, rfl, h9.2⟩) ?_
        go_simp
      rcases i with _ | i
      · obtain rfl := Option.some.inj ho
        have e3 : ρ (.tmp 43) = .bool true := (hdep ⟨3, .data⟩ (by simp) rfl 43 rfl).1
        have ocn : ∀ v, ρ (.const v) = v := fun v => hout (.const v) rfl
        have ofn : ∀ f, ρ (.func f) = .func (.func f) #[] #[] := fun f => hout (.func f) rfl
        clear hdep hout
        refine .inl ⟨rfl, ?_⟩
        show GivesP _ _ _ (fun v _ => v = .bool false) _
        refine GivesP.val (.bool false) rfl ?_
        go_simp
      cases ho
    case last =>
      intro U z hBx hV
      have e4 : U 4 = .bool false := hV 4 (by simp)
      clear hV
      have hBf := HBA.out.trans (hBx.mono HBA.out.size)
      rw [e4]
      go_wp2_with fail
      go_ret
      exact ⟨rfl, hBf⟩

end Go.Proofs.YtlkebkajdlgebaaGreat
