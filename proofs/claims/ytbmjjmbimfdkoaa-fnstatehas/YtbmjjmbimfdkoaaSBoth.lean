/-
  The model's l11Both: what it hands back at any two states.
-/
import Derived.Test.YtbmjjmbimfdkoaaSJm
namespace Go.Proofs.Ytbmjjmbimfdkoaa
open Go.RowKit
set_option linter.unusedVariables false
set_option linter.unusedSimpArgs false

/-- in the loop: the boxes, the row that is written, the rows that are read -/
structure BothL (x y : World) (mo : Nat) (va vb vo : Value) (c : Bool) (l u : Int) (d : Bool) (l' u' : Int) (g o g' o' gO oO : Nat) (L M : List Sp) (N : Nat → Sp) : Prop where
  below : Below x.heap.size x y
  ba : Bx5 y x.heap.size (.bool true) va (.bool c) (.int .i64 l) (.int .i64 u)
  bb : Bx5 y (x.heap.size + 1) (.bool true) vb (.bool d) (.int .i64 l') (.int .i64 u')
  res : Bx5 y (x.heap.size + 1 + 1) (.bool false) (.slice none 0 0) (.bool false) (.int .i64 0) (.int .i64 0)
  out : Bx5 y mo (.bool true) vo (.bool c) (.int .i64 l) (.int .i64 u)
  hg : g < x.heap.size
  hg' : g' < x.heap.size
  lo : x.heap.size + 3 ≤ gO
  lt : gO < mo
  fz : ∀ k, y.frozen? ⟨gO, k, none⟩ = false
  sp : ∀ j, j < 3 → Spn y gO (oO + j * 3) (N j)
  la : ∀ j, j < 3 → Spn y g (o + j * 3) (L.getD j noSp)
  lm : ∀ j, j < 3 → Spn y g' (o' + j * 3) (M.getD j noSp)
theorem BothL.later {x y z : World} {mo : Nat} {va vb vo : Value} {c : Bool} {l u : Int} {d : Bool} {l' u' : Int} {g o g' o' gO oO : Nat} {L M : List Sp} {N : Nat → Sp} (h : BothL x y mo va vb vo c l u d l' u' g o g' o' gO oO L M N) (hb : Below y.heap.size y z) : BothL x z mo va vb vo c l u d l' u' g o g' o' gO oO L M N :=
  have hs := h.below.size
  have h1 := h.hg
  have h2 := h.hg'
  have h3 := h.lt
  have h4 := h.out.lt
  ⟨h.below.trans (hb.mono h.below.size), h.ba.later hb, h.bb.later hb, h.res.later hb, h.out.later hb, h1, h2, h.lo, h3, fun k => (hb.frozen (p := ⟨gO, k, none⟩) (by show gO < _; omega)).trans (h.fz k), fun j hj => (h.sp j hj).later hb (by omega), fun j hj => (h.la j hj).later hb (by omega), fun j hj => (h.lm j hj).later hb (by omega)⟩
theorem Spn.off3 {y : World} {g o : Nat} {s : Sp} (h : Spn y g o s) {gO oO : Nat} (v0 v1 v2 : Value) (hne : g ≠ gO ∨ o + 3 ≤ oO ∨ oO + 3 ≤ o) : Spn (set3 y gO oO v0 v1 v2) g o s :=
  ⟨(set3_miss _ _ _ _ _ _ _ _ (by omega)).trans h.c0, (set3_miss _ _ _ _ _ _ _ _ (by omega)).trans h.c1, (set3_miss _ _ _ _ _ _ _ _ (by omega)).trans h.c2⟩
theorem Bx5.off3 {y : World} {m : Nat} {w0 w1 w2 w3 w4 : Value} (h : Bx5 y m w0 w1 w2 w3 w4) {gO oO : Nat} (v0 v1 v2 : Value) (hne : gO ≠ m) : Bx5 (set3 y gO oO v0 v1 v2) m w0 w1 w2 w3 w4 :=
  ((h.off hne).off hne).off hne
/-- one span more is written -/
theorem BothL.set {x y : World} {mo : Nat} {va vb vo : Value} {c : Bool} {l u : Int} {d : Bool} {l' u' : Int} {g o g' o' gO oO : Nat} {L M : List Sp} {N : Nat → Sp} (h : BothL x y mo va vb vo c l u d l' u' g o g' o' gO oO L M N) (k : Nat) (hk : k < 3) (s : Sp) :
    BothL x (set3 y gO (oO + k * 3) (.bool s.1) (.int .i64 s.2.1) (.int .i64 s.2.2)) mo va vb vo c l u d l' u' g o g' o' gO oO L M (fun j => if j = k then s else N j) := by
  have h1 := h.hg
  have h2 := h.hg'
  have h3 := h.lt
  have h4 := h.lo
  refine ⟨set3_below h.below (by omega), h.ba.off3 _ _ _ (by omega), h.bb.off3 _ _ _ (by omega), h.res.off3 _ _ _ (by omega), h.out.off3 _ _ _ (by omega), h1, h2, h4, h3, fun q => (set3_frozen _ _ _ _ _ _ _).trans (h.fz q), fun j hj => ?_, fun j hj => (h.la j hj).off3 _ _ _ (.inl (by omega)), fun j hj => (h.lm j hj).off3 _ _ _ (.inl (by omega))⟩
  by_cases hjk : j = k
  · subst hjk
    rw [if_pos rfl]
    have q := h.sp j hj
    exact set3_hit _ _ _ _ ⟨_, q.c0⟩ ⟨_, q.c1⟩ ⟨_, q.c2⟩
  · rw [if_neg hjk]
    exact (h.sp j hj).off3 _ _ _ (.inr (by omega))
theorem BothL.same {x y : World} {mo : Nat} {va vb vo : Value} {c : Bool} {l u : Int} {d : Bool} {l' u' : Int} {g o g' o' gO oO : Nat} {L M : List Sp} {N N' : Nat → Sp} (h : BothL x y mo va vb vo c l u d l' u' g o g' o' gO oO L M N) (hN : ∀ j, j < 3 → N' j = N j) : BothL x y mo va vb vo c l u d l' u' g o g' o' gO oO L M N' :=
  ⟨h.below, h.ba, h.bb, h.res, h.out, h.hg, h.hg', h.lo, h.lt, h.fz, fun j hj => by rw [hN j hj]; exact h.sp j hj, h.la, h.lm⟩
theorem keep9 {w : World} {mo m1 m2 gO oO g o g' o' k : Nat} {vo va vb v0 v1 v2 : Value} {i0 j0 : Bool} {i1 i2 j1 j2 : Int} (h : (fun z => z.cell? ⟨mo, 1, none⟩ = some vo ∧ z.cell? ⟨m1, 1, none⟩ = some va ∧ z.cell? ⟨m2, 1, none⟩ = some vb ∧ z.cell? ⟨g, o + k * 3, none⟩ = some (.bool i0) ∧ z.cell? ⟨g, o + k * 3 + 1, none⟩ = some (.int .i64 i1) ∧ z.cell? ⟨g, o + k * 3 + 2, none⟩ = some (.int .i64 i2) ∧ z.cell? ⟨g', o' + k * 3, none⟩ = some (.bool j0) ∧ z.cell? ⟨g', o' + k * 3 + 1, none⟩ = some (.int .i64 j1) ∧ z.cell? ⟨g', o' + k * 3 + 2, none⟩ = some (.int .i64 j2)) w) (h1 : mo ≠ gO) (h2 : m1 ≠ gO) (h3 : m2 ≠ gO) (h4 : g ≠ gO) (h5 : g' ≠ gO) :
    (fun z => z.cell? ⟨mo, 1, none⟩ = some vo ∧ z.cell? ⟨m1, 1, none⟩ = some va ∧ z.cell? ⟨m2, 1, none⟩ = some vb ∧ z.cell? ⟨g, o + k * 3, none⟩ = some (.bool i0) ∧ z.cell? ⟨g, o + k * 3 + 1, none⟩ = some (.int .i64 i1) ∧ z.cell? ⟨g, o + k * 3 + 2, none⟩ = some (.int .i64 i2) ∧ z.cell? ⟨g', o' + k * 3, none⟩ = some (.bool j0) ∧ z.cell? ⟨g', o' + k * 3 + 1, none⟩ = some (.int .i64 j1) ∧ z.cell? ⟨g', o' + k * 3 + 2, none⟩ = some (.int .i64 j2)) (set3 w gO oO v0 v1 v2) := by
  obtain ⟨c0, c1, c2, d0, d1, d2, e0, e1, e2⟩ := h
  exact ⟨(set3_miss _ _ _ _ _ _ _ _ (.inl h1)).trans c0, (set3_miss _ _ _ _ _ _ _ _ (.inl h2)).trans c1, (set3_miss _ _ _ _ _ _ _ _ (.inl h3)).trans c2, (set3_miss _ _ _ _ _ _ _ _ (.inl h4)).trans d0, (set3_miss _ _ _ _ _ _ _ _ (.inl h4)).trans d1, (set3_miss _ _ _ _ _ _ _ _ (.inl h4)).trans d2, (set3_miss _ _ _ _ _ _ _ _ (.inl h5)).trans e0, (set3_miss _ _ _ _ _ _ _ _ (.inl h5)).trans e1, (set3_miss _ _ _ _ _ _ _ _ (.inl h5)).trans e2⟩

set_option maxHeartbeats 4000000 in
theorem l11Both_any (wd : Bool) (x : World) (z z' : Bool) (B E C D : Nat) (a : Bool) (v : Value) (L : List Sp) (c : Bool) (l u : Int) (b : Bool) (v' : Value) (M : List Sp) (d : Bool) (l' u' : Int) (h : SpsAt z x B E v L) (h' : SpsAt z' x C D v' M) :
    Calls Try.prog 62 #[.agg #[.bool a, v, .bool c, .int .i64 l, .int .i64 u], .agg #[.bool b, v', .bool d, .int .i64 l', .int .i64 u'], .bool wd] x fun e y => StAt (stBoth wd a L (c, l, u) b M (d, l', u')) x e y := by
  obtain ⟨p, cap, hv⟩ := h.shape
  obtain ⟨p', cap', hv'⟩ := h'.shape
  generalize hn : L.length = n at hv
  generalize hm : M.length = m at hv'
  subst hv hv'
  have HN : Hid (L.length = n) := hn
  have HM : Hid (M.length = m) := hm
  clear hn hm
  have hba : Below x.heap.size x (((x.alloc (.cells #[.bool a, .slice p n cap, .bool c, .int .i64 l, .int .i64 u] 32)).alloc (.cells #[.bool b, .slice p' m cap', .bool d, .int .i64 l', .int .i64 u'] 32)).alloc (.cells #[.bool false, .slice none 0 0, .bool false, .int .i64 0, .int .i64 0] 32)) := by go_grown
  have ka := ((Bx5.new x (.bool a) (.slice p n cap) (.bool c) (.int .i64 l) (.int .i64 u) 32).alloc (.cells #[.bool b, .slice p' m cap', .bool d, .int .i64 l', .int .i64 u'] 32)).alloc (.cells #[.bool false, .slice none 0 0, .bool false, .int .i64 0, .int .i64 0] 32)
  have kb := (Bx5.new (x.alloc (.cells #[.bool a, .slice p n cap, .bool c, .int .i64 l, .int .i64 u] 32)) (.bool b) (.slice p' m cap') (.bool d) (.int .i64 l') (.int .i64 u') 32).alloc (.cells #[.bool false, .slice none 0 0, .bool false, .int .i64 0, .int .i64 0] 32)
  have kr := Bx5.new ((x.alloc (.cells #[.bool a, .slice p n cap, .bool c, .int .i64 l, .int .i64 u] 32)).alloc (.cells #[.bool b, .slice p' m cap', .bool d, .int .i64 l', .int .i64 u'] 32)) (.bool false) (.slice none 0 0) (.bool false) (.int .i64 0) (.int .i64 0) 32
  simp only [World.size_alloc] at kb kr
  have h3 := h.later hba
  have h3' := h'.later hba
  cases hoa : stOk a L (c, l, u)
  · go_enter Try.func62, Try.ntmps62
    go_wp2_with fail
    refine (stOk_spec _ z B E _ _ L _ _ _ h3).mono ?_
    rintro e w1 ⟨rfl, hb⟩
    rw [hoa]
    replace hba := hba.trans (hb.mono hba.size)
    replace ka := ka.later hb
    replace kb := kb.later hb
    replace kr := kr.later hb
    replace h3 := h3.later hb
    replace h3' := h3'.later hb
    clear hb
    obtain ⟨_, a0, a1, a2, a3, a4, af⟩ := id ka
    obtain ⟨_, b0, b1, b2, b3, b4, bf⟩ := id kb
    obtain ⟨_, r0, r1, r2, r3, r4, rf⟩ := id kr
    go_wp2_with fail
    clear a0 a1 a2 a3 a4 af b0 b1 b2 b3 b4 bf r0 r1 r2 r3 r4 rf
    refine (none_spec _).mono ?_
    rintro e w5 ⟨v5, rfl, hS5, hb⟩
    obtain ⟨p5, cap5, hv5⟩ := hS5.shape
    subst hv5
    have hS := hS5
    replace hba := hba.trans (hb.mono hba.size)
    replace ka := ka.later hb
    replace kb := kb.later hb
    replace kr := kr.later hb
    replace h3 := h3.later hb
    replace h3' := h3'.later hb
    clear hb
    obtain ⟨_, r0, r1, r2, r3, r4, rf⟩ := id kr
    go_wp2_with fail
    refine bodyPost_ret (v := .agg #[.bool false, .slice p5 0 cap5, .bool false, .int .i64 0, .int .i64 0]) (by simp [results, Try.results62, go_sem, kr.lt, r0, r1, r2, r3, r4, rf]) rfl ?_
    rw [stB_no (by rw [hoa]; rfl)]
    refine ⟨_, rfl, SpsAt.nil, ?_⟩
    repeat (refine Below.setCell ?_ (by simp <;> omega) _)
    exact hba
  cases hob : stOk b M (d, l', u')
  · go_enter Try.func62, Try.ntmps62
    go_wp2_with fail
    refine (stOk_spec _ z B E _ _ L _ _ _ h3).mono ?_
    rintro e w1 ⟨rfl, hb⟩
    rw [hoa]
    replace hba := hba.trans (hb.mono hba.size)
    replace ka := ka.later hb
    replace kb := kb.later hb
    replace kr := kr.later hb
    replace h3 := h3.later hb
    replace h3' := h3'.later hb
    clear hb
    obtain ⟨_, a0, a1, a2, a3, a4, af⟩ := id ka
    obtain ⟨_, b0, b1, b2, b3, b4, bf⟩ := id kb
    obtain ⟨_, r0, r1, r2, r3, r4, rf⟩ := id kr
    go_wp2_with fail
    clear a0 a1 a2 a3 a4 af b0 b1 b2 b3 b4 bf r0 r1 r2 r3 r4 rf
    refine (stOk_spec _ z' C D _ _ M _ _ _ h3').mono ?_
    rintro e w2 ⟨rfl, hb⟩
    rw [hob]
    replace hba := hba.trans (hb.mono hba.size)
    replace ka := ka.later hb
    replace kb := kb.later hb
    replace kr := kr.later hb
    replace h3 := h3.later hb
    replace h3' := h3'.later hb
    clear hb
    obtain ⟨_, a0, a1, a2, a3, a4, af⟩ := id ka
    obtain ⟨_, b0, b1, b2, b3, b4, bf⟩ := id kb
    obtain ⟨_, r0, r1, r2, r3, r4, rf⟩ := id kr
    go_wp2_with fail
    clear a0 a1 a2 a3 a4 af b0 b1 b2 b3 b4 bf r0 r1 r2 r3 r4 rf
    refine (none_spec _).mono ?_
    rintro e w5 ⟨v5, rfl, hS5, hb⟩
    obtain ⟨p5, cap5, hv5⟩ := hS5.shape
    subst hv5
    have hS := hS5
    replace hba := hba.trans (hb.mono hba.size)
    replace ka := ka.later hb
    replace kb := kb.later hb
    replace kr := kr.later hb
    replace h3 := h3.later hb
    replace h3' := h3'.later hb
    clear hb
    obtain ⟨_, r0, r1, r2, r3, r4, rf⟩ := id kr
    go_wp2_with fail
    refine bodyPost_ret (v := .agg #[.bool false, .slice p5 0 cap5, .bool false, .int .i64 0, .int .i64 0]) (by simp [results, Try.results62, go_sem, kr.lt, r0, r1, r2, r3, r4, rf]) rfl ?_
    rw [stB_no (by rw [hoa, hob]; rfl)]
    refine ⟨_, rfl, SpsAt.nil, ?_⟩
    repeat (refine Below.setCell ?_ (by simp <;> omega) _)
    exact hba
  cases a
  · go_enter Try.func62, Try.ntmps62
    go_wp2_with fail
    refine (stOk_spec _ z B E _ _ L _ _ _ h3).mono ?_
    rintro e w1 ⟨rfl, hb⟩
    rw [hoa]
    replace hba := hba.trans (hb.mono hba.size)
    replace ka := ka.later hb
    replace kb := kb.later hb
    replace kr := kr.later hb
    replace h3 := h3.later hb
    replace h3' := h3'.later hb
    clear hb
    obtain ⟨_, a0, a1, a2, a3, a4, af⟩ := id ka
    obtain ⟨_, b0, b1, b2, b3, b4, bf⟩ := id kb
    obtain ⟨_, r0, r1, r2, r3, r4, rf⟩ := id kr
    go_wp2_with fail
    clear a0 a1 a2 a3 a4 af b0 b1 b2 b3 b4 bf r0 r1 r2 r3 r4 rf
    refine (stOk_spec _ z' C D _ _ M _ _ _ h3').mono ?_
    rintro e w2 ⟨rfl, hb⟩
    rw [hob]
    replace hba := hba.trans (hb.mono hba.size)
    replace ka := ka.later hb
    replace kb := kb.later hb
    replace kr := kr.later hb
    replace h3 := h3.later hb
    replace h3' := h3'.later hb
    clear hb
    obtain ⟨_, a0, a1, a2, a3, a4, af⟩ := id ka
    obtain ⟨_, b0, b1, b2, b3, b4, bf⟩ := id kb
    obtain ⟨_, r0, r1, r2, r3, r4, rf⟩ := id kr
    go_wp2_with fail
    clear a0 a1 a2 a3 a4 af b0 b1 b2 b3 b4 bf r0 r1 r2 r3 r4 rf
    refine (l11Copy_any _ z' C D _ _ M _ _ _ h3' (stOk_len0 hob)).mono ?_
    rintro e w5 ⟨v5, rfl, hS5, hb⟩
    obtain ⟨p5, cap5, hv5⟩ := hS5.shape
    subst hv5
    have hz5 := hba.size
    replace hba := hba.trans (hb.mono hba.size)
    replace ka := ka.later hb
    replace kb := kb.later hb
    replace kr := kr.later hb
    replace h3 := h3.later hb
    replace h3' := h3'.later hb
    clear hb
    obtain ⟨_, r0, r1, r2, r3, r4, rf⟩ := id kr
    generalize hq : M.length = q at hS5 ⊢
    have HS5 : Hid (SpsAt true w5 w2.heap.size w5.heap.size (.slice p5 q cap5) M) := hS5
    have hlt := kr.lt
    clear hS5 hq
    go_wp2_with fail
    refine bodyPost_ret (v := .agg #[.bool b, .slice p5 q cap5, .bool d, .int .i64 l', .int .i64 u']) (by simp [results, Try.results62, go_sem, hlt, r0, r1, r2, r3, r4, rf]) rfl ?_
    rw [stB_snd hoa hob]
    refine ⟨_, rfl, ?_, ?_⟩
    · refine SpsAt.wide (B := w2.heap.size) (E := w5.heap.size) ?_ (by omega) (by simp) (by simp)
      repeat (refine SpsAt.off ?_ (by omega))
      exact HS5.out
    · repeat (refine Below.setCell ?_ (by simp <;> omega) _)
      exact hba
  cases b
  · go_enter Try.func62, Try.ntmps62
    go_wp2_with fail
    refine (stOk_spec _ z B E _ _ L _ _ _ h3).mono ?_
    rintro e w1 ⟨rfl, hb⟩
    rw [hoa]
    replace hba := hba.trans (hb.mono hba.size)
    replace ka := ka.later hb
    replace kb := kb.later hb
    replace kr := kr.later hb
    replace h3 := h3.later hb
    replace h3' := h3'.later hb
    clear hb
    obtain ⟨_, a0, a1, a2, a3, a4, af⟩ := id ka
    obtain ⟨_, b0, b1, b2, b3, b4, bf⟩ := id kb
    obtain ⟨_, r0, r1, r2, r3, r4, rf⟩ := id kr
    go_wp2_with fail
    clear a0 a1 a2 a3 a4 af b0 b1 b2 b3 b4 bf r0 r1 r2 r3 r4 rf
    refine (stOk_spec _ z' C D _ _ M _ _ _ h3').mono ?_
    rintro e w2 ⟨rfl, hb⟩
    rw [hob]
    replace hba := hba.trans (hb.mono hba.size)
    replace ka := ka.later hb
    replace kb := kb.later hb
    replace kr := kr.later hb
    replace h3 := h3.later hb
    replace h3' := h3'.later hb
    clear hb
    obtain ⟨_, a0, a1, a2, a3, a4, af⟩ := id ka
    obtain ⟨_, b0, b1, b2, b3, b4, bf⟩ := id kb
    obtain ⟨_, r0, r1, r2, r3, r4, rf⟩ := id kr
    go_wp2_with fail
    clear a0 a1 a2 a3 a4 af b0 b1 b2 b3 b4 bf r0 r1 r2 r3 r4 rf
    refine (l11Copy_any _ z B E _ _ L _ _ _ h3 (stOk_len0 hoa)).mono ?_
    rintro e w5 ⟨v5, rfl, hS5, hb⟩
    obtain ⟨p5, cap5, hv5⟩ := hS5.shape
    subst hv5
    have hz5 := hba.size
    replace hba := hba.trans (hb.mono hba.size)
    replace ka := ka.later hb
    replace kb := kb.later hb
    replace kr := kr.later hb
    replace h3 := h3.later hb
    replace h3' := h3'.later hb
    clear hb
    obtain ⟨_, r0, r1, r2, r3, r4, rf⟩ := id kr
    generalize hq : L.length = q at hS5 ⊢
    have HS5 : Hid (SpsAt true w5 w2.heap.size w5.heap.size (.slice p5 q cap5) L) := hS5
    have hlt := kr.lt
    clear hS5 hq
    go_wp2_with fail
    refine bodyPost_ret (v := .agg #[.bool true, .slice p5 q cap5, .bool c, .int .i64 l, .int .i64 u]) (by simp [results, Try.results62, go_sem, hlt, r0, r1, r2, r3, r4, rf]) rfl ?_
    rw [stB_fst hoa hob rfl]
    refine ⟨_, rfl, ?_, ?_⟩
    · refine SpsAt.wide (B := w2.heap.size) (E := w5.heap.size) ?_ (by omega) (by simp) (by simp)
      repeat (refine SpsAt.off ?_ (by omega))
      exact HS5.out
    · repeat (refine Below.setCell ?_ (by simp <;> omega) _)
      exact hba
  have hn3 : n = 3 := HN.out.symm.trans (stOk_len' hoa)
  have hm3 : m = 3 := HM.out.symm.trans (stOk_len' hob)
  subst hn3 hm3
  obtain ⟨g, o, rfl, hgx, hl3⟩ := h.three HN.out
  obtain ⟨g', o', rfl, hgx', hl3'⟩ := h'.three HM.out
  have HX : Hid (∀ j, j < 3 → Spn x g (o + j * 3) (L.getD j noSp)) := hl3
  have HX' : Hid (∀ j, j < 3 → Spn x g' (o' + j * 3) (M.getD j noSp)) := hl3'
  clear hl3 hl3'
  go_enter Try.func62, Try.ntmps62
  go_wp2_with fail
  refine (stOk_spec _ z B E _ _ L _ _ _ h3).mono ?_
  rintro e w1 ⟨rfl, hb⟩
  rw [hoa]
  replace hba := hba.trans (hb.mono hba.size)
  replace ka := ka.later hb
  replace kb := kb.later hb
  replace kr := kr.later hb
  replace h3 := h3.later hb
  replace h3' := h3'.later hb
  clear hb
  obtain ⟨_, a0, a1, a2, a3, a4, af⟩ := id ka
  obtain ⟨_, b0, b1, b2, b3, b4, bf⟩ := id kb
  obtain ⟨_, r0, r1, r2, r3, r4, rf⟩ := id kr
  go_wp2_with fail
  clear a0 a1 a2 a3 a4 af b0 b1 b2 b3 b4 bf r0 r1 r2 r3 r4 rf
  refine (stOk_spec _ z' C D _ _ M _ _ _ h3').mono ?_
  rintro e w2 ⟨rfl, hb⟩
  rw [hob]
  replace hba := hba.trans (hb.mono hba.size)
  replace ka := ka.later hb
  replace kb := kb.later hb
  replace kr := kr.later hb
  replace h3 := h3.later hb
  replace h3' := h3'.later hb
  clear hb
  obtain ⟨_, a0, a1, a2, a3, a4, af⟩ := id ka
  obtain ⟨_, b0, b1, b2, b3, b4, bf⟩ := id kb
  obtain ⟨_, r0, r1, r2, r3, r4, rf⟩ := id kr
  go_wp2_with fail
  clear a0 a1 a2 a3 a4 af b0 b1 b2 b3 b4 bf r0 r1 r2 r3 r4 rf
  refine (l11Copy_any _ z B E _ _ L _ _ _ h3 (stOk_len0 hoa)).mono ?_
  rintro e w3 ⟨v5, rfl, hS5, hb⟩
  obtain ⟨p5, cap5, hv5⟩ := hS5.shape
  rw [HN.out] at hv5
  subst hv5
  obtain ⟨gO, oO, hp5, hgO0, hgO1, hfz, hlO⟩ : ∃ gO oO, p5 = some ⟨gO, oO, none⟩ ∧ w2.heap.size ≤ gO ∧ gO < w3.heap.size ∧ (∀ k, w3.frozen? ⟨gO, k, none⟩ = false) ∧ ∀ j, j < 3 → Spn w3 gO (oO + j * 3) (L.getD j noSp) := by
    obtain ⟨p1, cap1, hv1, _, hq⟩ := hS5
    injection hv1 with e1
    rcases hq with h0 | ⟨gO, oO, hp, h1, h2, _, h4, hj⟩
    · rw [HN.out] at h0; omega
    · rw [HN.out] at hj; exact ⟨gO, oO, e1.trans hp, h1, h2, h4 rfl, hj⟩
  subst hp5
  have hz3 := hba.size
  have hz4 := kr.lt
  replace hba := hba.trans (hb.mono hba.size)
  replace ka := ka.later hb
  replace kb := kb.later hb
  replace kr := kr.later hb
  replace h3 := h3.later hb
  replace h3' := h3'.later hb
  clear hb
  have hY : Below w3.heap.size w3 (w3.alloc (.cells #[.bool true, .slice (some ⟨gO, oO, none⟩) 3 cap5, .bool c, .int .i64 l, .int .i64 u] 32)) := (Below.refl _ _).alloc (Nat.le_refl _) _
  have E0 : Hid (BothL x (w3.alloc (.cells #[.bool true, .slice (some ⟨gO, oO, none⟩) 3 cap5, .bool c, .int .i64 l, .int .i64 u] 32)) w3.heap.size (.slice (some ⟨g, o, none⟩) 3 cap) (.slice (some ⟨g', o', none⟩) 3 cap') (.slice (some ⟨gO, oO, none⟩) 3 cap5) c l u d l' u' g o g' o' gO oO L M (fun j => if j < 0 then spF wd (L.getD j noSp) (M.getD j noSp) else L.getD j noSp)) :=
    ⟨hba.trans (hY.mono hba.size), ka.later hY, kb.later hY, kr.later hY, Bx5.new _ _ _ _ _ _ _, hgx, hgx', by omega, hgO1, fun k => (hY.frozen (p := ⟨gO, k, none⟩) hgO1).trans (hfz k), fun j hj => by rw [if_neg (by omega)]; exact (hlO j hj).later hY hgO1, fun j hj => ((HX.out j hj).later hba hgx).later hY (Nat.lt_of_lt_of_le hgx hba.size), fun j hj => ((HX'.out j hj).later hba hgx').later hY (Nat.lt_of_lt_of_le hgx' hba.size)⟩
  clear hY ka kb kr h3 h3' hS5 hlO hfz h h' hz3 hz4 hgO0 hgO1 HX HX' hba
  go_wp2_with fail
  generalize w3.alloc (.cells #[.bool true, .slice (some ⟨gO, oO, none⟩) 3 cap5, .bool c, .int .i64 l, .int .i64 u] 32) = Y at E0 ⊢
  go_loopw [8] (fun t y => ∃ k : Nat, k ≤ 3 ∧ t = .int .i64 k ∧ BothL x y w3.heap.size (.slice (some ⟨g, o, none⟩) 3 cap) (.slice (some ⟨g', o', none⟩) 3 cap') (.slice (some ⟨gO, oO, none⟩) 3 cap5) c l u d l' u' g o g' o' gO oO L M (fun j => if j < k then spF wd (L.getD j noSp) (M.getD j noSp) else L.getD j noSp)) (fun t _ => 3 - (intOf t).toNat)
  case atStart => exact ⟨0, by omega, rfl, E0.out⟩
  case round =>
    clear E0
    obtain ⟨k, hk, rfl, hE⟩ := hrel
    by_cases hlt : k < 3
    · have hki : (k : Int) < 3 := by omega
      have HE : Hid (BothL x wr.drew w3.heap.size (.slice (some ⟨g, o, none⟩) 3 cap) (.slice (some ⟨g', o', none⟩) 3 cap') (.slice (some ⟨gO, oO, none⟩) 3 cap5) c l u d l' u' g o g' o' gO oO L M (fun j => if j < k then spF wd (L.getD j noSp) (M.getD j noSp) else L.getD j noSp)) := hE.later ((Below.refl _ _).drew)
      clear hE
      obtain ⟨al, a0, a1, a2, a3, a4, _⟩ := HE.out.ba
      obtain ⟨bl, b0, b1, b2, b3, b4, _⟩ := HE.out.bb
      obtain ⟨ol, o0, o1, o2, o3, o4, _⟩ := HE.out.out
      obtain ⟨q0, q1, q2⟩ := HE.out.la k hlt
      obtain ⟨r0, r1, r2⟩ := HE.out.lm k hlt
      obtain ⟨s0, s1, s2⟩ := HE.out.sp k hlt
      have hgw : g < x.heap.size := hgx
      have hne : w3.heap.size ≠ gO ∧ x.heap.size ≠ gO ∧ x.heap.size + 1 ≠ gO ∧ g ≠ gO ∧ g' ≠ gO := by have h1 := HE.out.lo; have h2 := HE.out.lt; omega
      generalize hI : L.getD k noSp = I at q0 q1 q2
      have HI : Hid (L.getD k noSp = I) := hI
      clear hI
      generalize hJ : M.getD k noSp = J at r0 r1 r2
      have HJ : Hid (M.getD k noSp = J) := hJ
      clear hJ s0 s1 s2
      obtain ⟨i0, i1, i2⟩ := I
      obtain ⟨j0, j1, j2⟩ := J
      simp only at q0 q1 q2 r0 r1 r2
      obtain ⟨n0, n1, n2, hn0⟩ : ∃ n0 n1 n2, spF wd (i0, i1, i2) (j0, j1, j2) = (n0, n1, n2) := ⟨_, _, _, rfl⟩
      have HK : Hid (spF wd (i0, i1, i2) (j0, j1, j2) = (n0, n1, n2)) := hn0
      clear hn0
      go_wp2_with fail
      go_region_held3 (fun z => z.cell? ⟨w3.heap.size, 1, none⟩ = some (.slice (some ⟨gO, oO, none⟩) 3 cap5) ∧ z.cell? ⟨x.heap.size, 1, none⟩ = some (.slice (some ⟨g, o, none⟩) 3 cap) ∧ z.cell? ⟨x.heap.size + 1, 1, none⟩ = some (.slice (some ⟨g', o', none⟩) 3 cap') ∧ z.cell? ⟨g, o + k * 3, none⟩ = some (.bool i0) ∧ z.cell? ⟨g, o + k * 3 + 1, none⟩ = some (.int .i64 i1) ∧ z.cell? ⟨g, o + k * 3 + 2, none⟩ = some (.int .i64 i2) ∧ z.cell? ⟨g', o' + k * 3, none⟩ = some (.bool j0) ∧ z.cell? ⟨g', o' + k * 3 + 1, none⟩ = some (.int .i64 j1) ∧ z.cell? ⟨g', o' + k * 3 + 2, none⟩ = some (.int .i64 j2)) (first | (with_reducible assumption) | exact ⟨o1, a1, b1, q0, q1, q2, r0, r1, r2⟩ | exact keep9 (by with_reducible assumption) hne.1 hne.2.1 hne.2.2.1 hne.2.2.2.1 hne.2.2.2.2 | fail) ((go_at_call 77; refine (l11Span_at HK.out _).mono ?_; rintro e w5 ⟨rfl, hb5⟩; have HE5 : Hid (BothL x w5 w3.heap.size (.slice (some ⟨g, o, none⟩) 3 cap) (.slice (some ⟨g', o', none⟩) 3 cap') (.slice (some ⟨gO, oO, none⟩) 3 cap5) c l u d l' u' g o g' o' gO oO L M (fun j => if j < k then spF wd (L.getD j noSp) (M.getD j noSp) else L.getD j noSp)) := HE.out.later hb5; have tl := HE5.out.la k hlt; rw [HI.out] at tl; have tm := HE5.out.lm k hlt; rw [HJ.out] at tm; have hS5 : (fun z => z.cell? ⟨w3.heap.size, 1, none⟩ = some (.slice (some ⟨gO, oO, none⟩) 3 cap5) ∧ z.cell? ⟨x.heap.size, 1, none⟩ = some (.slice (some ⟨g, o, none⟩) 3 cap) ∧ z.cell? ⟨x.heap.size + 1, 1, none⟩ = some (.slice (some ⟨g', o', none⟩) 3 cap') ∧ z.cell? ⟨g, o + k * 3, none⟩ = some (.bool i0) ∧ z.cell? ⟨g, o + k * 3 + 1, none⟩ = some (.int .i64 i1) ∧ z.cell? ⟨g, o + k * 3 + 2, none⟩ = some (.int .i64 i2) ∧ z.cell? ⟨g', o' + k * 3, none⟩ = some (.bool j0) ∧ z.cell? ⟨g', o' + k * 3 + 1, none⟩ = some (.int .i64 j1) ∧ z.cell? ⟨g', o' + k * 3 + 2, none⟩ = some (.int .i64 j2)) w5 := ⟨HE5.out.out.c1, HE5.out.ba.c1, HE5.out.bb.c1, tl.c0, tl.c1, tl.c2, tm.c0, tm.c1, tm.c2⟩; obtain ⟨s0, s1, s2⟩ := HE5.out.sp k hlt; have f0 := HE5.out.fz (oO + k * 3); have f1 := HE5.out.fz (oO + k * 3 + 1); have f2 := HE5.out.fz (oO + k * 3 + 2); clear hb5 tl tm))
      have E6 : Hid (BothL x (set3 w5 gO (oO + k * 3) (.bool n0) (.int .i64 n1) (.int .i64 n2)) w3.heap.size (.slice (some ⟨g, o, none⟩) 3 cap) (.slice (some ⟨g', o', none⟩) 3 cap') (.slice (some ⟨gO, oO, none⟩) 3 cap5) c l u d l' u' g o g' o' gO oO L M (fun j => if j < k + 1 then spF wd (L.getD j noSp) (M.getD j noSp) else L.getD j noSp)) := (HE5.out.set k hlt (n0, n1, n2)).same fun j hj => by
        by_cases hjk : j = k
        · subst hjk; rw [if_pos (by omega), if_pos rfl, HI.out, HJ.out]; exact HK.out
        · rw [if_neg hjk]; by_cases h1 : j < k
          · rw [if_pos h1, if_pos (by omega)]
          · rw [if_neg h1, if_neg (by omega)]
      unfold set3 at E6
      generalize hW6 : ((w5.setCell ⟨gO, oO + k * 3, none⟩ (.bool n0)).setCell ⟨gO, oO + k * 3 + 1, none⟩ (.int .i64 n1)).setCell ⟨gO, oO + k * 3 + 2, none⟩ (.int .i64 n2) = w6 at E6 ⊢
      clear hW6 hS5 s0 s1 s2 f0 f1 f2 HE5 HE a0 a1 a2 a3 a4 b0 b1 b2 b3 b4 o0 o1 o2 o3 o4 q0 q1 q2 r0 r1 r2 hne al bl ol
      go_wp2_with fail
      go_roundw
      case rel => exact ⟨k + 1, by omega, by go_num, E6.out⟩
      case measure => simp [intOf]; omega
    · obtain rfl : k = 3 := by omega
      have hki : ¬ ((3 : Nat) : Int) < 3 := by omega
      have HE : Hid (BothL x wr w3.heap.size (.slice (some ⟨g, o, none⟩) 3 cap) (.slice (some ⟨g', o', none⟩) 3 cap') (.slice (some ⟨gO, oO, none⟩) 3 cap5) c l u d l' u' g o g' o' gO oO L M (fun j => if j < 3 then spF wd (L.getD j noSp) (M.getD j noSp) else L.getD j noSp)) := hE
      clear hE
      obtain ⟨al, a0, a1, a2, a3, a4, _⟩ := HE.out.ba
      obtain ⟨bl, b0, b1, b2, b3, b4, _⟩ := HE.out.bb
      obtain ⟨n0, n1, n2, hn0⟩ : ∃ n0 n1 n2, spF wd (c, l, u) (d, l', u') = (n0, n1, n2) := ⟨_, _, _, rfl⟩
      have HK : Hid (spF wd (c, l, u) (d, l', u') = (n0, n1, n2)) := hn0
      clear hn0
      go_wp2_with fail
      refine (l11Span_at HK.out _).mono ?_
      rintro e w5 ⟨rfl, hb5⟩
      have HE5 : Hid (BothL x w5 w3.heap.size (.slice (some ⟨g, o, none⟩) 3 cap) (.slice (some ⟨g', o', none⟩) 3 cap') (.slice (some ⟨gO, oO, none⟩) 3 cap5) c l u d l' u' g o g' o' gO oO L M (fun j => if j < 3 then spF wd (L.getD j noSp) (M.getD j noSp) else L.getD j noSp)) := HE.out.later hb5
      clear HE hb5 al a0 a1 a2 a3 a4 bl b0 b1 b2 b3 b4
      obtain ⟨ol, o0, o1, o2, o3, o4, of⟩ := HE5.out.out
      obtain ⟨rl, r0, r1, r2, r3, r4, rf⟩ := HE5.out.res
      have hne : x.heap.size + 1 + 1 ≠ w3.heap.size := by have h1 := HE5.out.lo; have h2 := HE5.out.lt; omega
      go_wp2_with fail
      refine bodyPost_ret (v := .agg #[.bool true, .slice (some ⟨gO, oO, none⟩) 3 cap5, .bool n0, .int .i64 n1, .int .i64 n2]) (by simp [results, Try.results62, go_sem, rl, ol, hne, Ne.symm hne, r0, r1, r2, r3, r4, rf]) rfl ?_
      rw [stB_all hoa hob, HK.out]
      have h1 := HE5.out.lo
      have h2 := HE5.out.lt
      refine ⟨_, rfl, ?_, ?_⟩
      · refine SpsAt.wide (B := x.heap.size + 3) (E := w3.heap.size) ?_ (by omega) (by simp; omega) (by simp)
        repeat (refine SpsAt.off ?_ (by omega))
        refine ⟨_, _, rfl, by unfold maxLen; simp [row3], .inr ⟨gO, oO, rfl, by omega, by omega, by omega, fun _ => HE5.out.fz, fun j hj => ?_⟩⟩
        have hj3 : j < 3 := by simpa [row3] using hj
        have q := HE5.out.sp j hj3
        rw [if_pos hj3] at q
        match j, hj3 with
        | 0, _ => exact q
        | 1, _ => exact q
        | 2, _ => exact q
        | j + 3, hj => omega
      · repeat (refine Below.setCell ?_ (by simp <;> omega) _)
        exact HE5.out.below
end Go.Proofs.Ytbmjjmbimfdkoaa
