import Derived.Test.YtbjegekfghihkaaB6
/-
  Rows of numbers: what a slice of them reads as; copied (toIntS), the same (eqIntS); one that is handed in, opened.
-/
namespace Go.Proofs.Ytbjegekfghihkaa
open Go.ChangeShapes Go.WideShapes Go.ChangeAt Go.RowKit Go.Joins Go.Deep
set_option linter.unusedVariables false
set_option linter.unusedSimpArgs false

/-- the slice value v reads as the numbers L, in a block from B on and ahead of E; nothing of it is frozen, if z -/
def IntsAt (z : Bool) (x : World) (B E : Nat) (v : Value) (L : List Int) : Prop :=
  ∃ p cap, v = .slice p L.length cap ∧ L.length ≤ maxLen ∧ (L.length = 0 ∨ ∃ g o, p = some ⟨g, o, none⟩ ∧ B ≤ g ∧ g < E ∧ E ≤ x.heap.size ∧ (z = true → ∀ k, x.frozen? ⟨g, k, none⟩ = false) ∧ ∀ j, j < L.length → x.cell? ⟨g, o + j, none⟩ = some (.int .i64 (L.getD j 0)))
theorem IntsAt.stay {z : Bool} {x y : World} {B E : Nat} {v : Value} {L : List Int} (h : IntsAt z x B E v L) (hs : x.heap.size ≤ y.heap.size) (hc : ∀ g o, B ≤ g → g < E → y.cell? ⟨g, o, none⟩ = x.cell? ⟨g, o, none⟩ ∧ y.frozen? ⟨g, o, none⟩ = x.frozen? ⟨g, o, none⟩) : IntsAt z y B E v L := by
  obtain ⟨p, cap, hv, hm, hq⟩ := h
  refine ⟨p, cap, hv, hm, hq.imp id ?_⟩
  rintro ⟨g, o, hp, hB, hg, hE, hf, hj⟩
  exact ⟨g, o, hp, hB, hg, by omega, fun hz k => (hc g k hB hg).2.trans (hf hz k), fun j h => (hc _ _ hB hg).1.trans (hj j h)⟩
theorem IntsAt.later {z : Bool} {x y : World} {B E : Nat} {v : Value} {L : List Int} (h : IntsAt z x B E v L) (hb : Below x.heap.size x y) : IntsAt z y B E v L := by
  obtain ⟨p, cap, hv, hm, hq⟩ := h
  refine ⟨p, cap, hv, hm, hq.imp id ?_⟩
  rintro ⟨g, o, hp, hB, hg, hE, hf, hj⟩
  exact ⟨g, o, hp, hB, hg, Nat.le_trans hE hb.size, fun hz k => (hb.frozen (p := ⟨g, k, none⟩) (by show g < _; omega)).trans (hf hz k), fun j h => (hb.cell (p := ⟨g, o + j, none⟩) (by show g < _; omega)).trans (hj j h)⟩
theorem IntsAt.wide {z : Bool} {x : World} {B E C D : Nat} {v : Value} {L : List Int} (h : IntsAt z x B E v L) (hc : C ≤ B) (hd : E ≤ D) (hx : D ≤ x.heap.size) : IntsAt z x C D v L := by
  obtain ⟨p, cap, hv, hm, hq⟩ := h
  refine ⟨p, cap, hv, hm, hq.imp id ?_⟩
  rintro ⟨g, o, hp, hB, hg, hE, hf, hj⟩
  exact ⟨g, o, hp, by omega, by omega, hx, hf, hj⟩
theorem IntsAt.off {z : Bool} {x : World} {B E : Nat} {v : Value} {L : List Int} (h : IntsAt z x B E v L) {b o : Nat} {u : Value} (hb : b < B ∨ E ≤ b) : IntsAt z (x.setCell ⟨b, o, none⟩ u) B E v L :=
  h.stay (by simp) fun g k h1 h2 => ⟨sc_other (by intro e; injection e; omega), World.frozen?_setCell _ _ _ _⟩
theorem IntsAt.nil {z : Bool} {x : World} {B E : Nat} {p : Option Addr} {cap : Nat} : IntsAt z x B E (.slice p 0 cap) [] := ⟨p, cap, rfl, by unfold maxLen; simp, .inl rfl⟩
theorem IntsAt.shape {z : Bool} {x : World} {B E : Nat} {v : Value} {L : List Int} (h : IntsAt z x B E v L) : ∃ p cap, v = .slice p L.length cap := by
  obtain ⟨p, cap, hv, _⟩ := h
  exact ⟨p, cap, hv⟩

theorem infoInt : (Try.prog.info? 3).map (fun i => (i.zero, i.size, i.bytes)) = some (some (.int .i64 0), 1, 8) := by kernel_rfl
set_option maxHeartbeats 1000000 in
theorem toIntS_any (x : World) (z : Bool) (B E : Nat) (v : Value) (c : List Int) (h : IntsAt z x B E v c) (hn : c.length ≤ 1048576) :
    Calls Try.prog 92 #[v] x fun e y => ∃ u, e = .returned u ∧ IntsAt true y x.heap.size y.heap.size u c ∧ Below x.heap.size x y := by
  obtain ⟨i, hi, hz0, hz1, hz2⟩ : ∃ i, Try.prog.info? 3 = some i ∧ i.zero = some (.int .i64 0) ∧ i.size = 1 ∧ i.bytes = 8 := info_parts infoInt
  have HI : Hid (Try.prog.info? 3 = some i ∧ i.zero = some (.int .i64 0) ∧ i.size = 1 ∧ i.bytes = 8) := ⟨hi, hz0, hz1, hz2⟩
  clear hi hz0 hz1 hz2
  obtain ⟨p, cap, rfl, hm, hc⟩ := h
  generalize hL : c.length = n at *
  have HL : Hid (c.length = n) := hL
  have HN : Hid (n ≤ 1048576) := hn
  have hni : (n : Int) ≤ 1048576 := by omega
  have HM : Hid (n ≤ maxLen) := hm
  clear hL hn hm
  go_enter Try.func92, Try.ntmps92
  go_wp2_with (refine wpList_make_full _ rfl _ _ 97 rfl x.heap.size 3 i (.int .i64 0) 1 Try.underlying97 HI.out.1 HI.out.2.1 HI.out.2.2.1 .i64 .i64 n n n rfl rfl rfl rfl ?b2 HM.out (Nat.le_refl _) ?_)
  case b2 => rw [HI.out.2.2.2]; have := HN.out; omega
  intro w1 hown0 hgr
  obtain ⟨xs, hown⟩ : ∃ xs, w1.ownsRow x.heap.size 3 1 (.slice (some ⟨x.heap.size, 0, none⟩) n n) n xs := ⟨_, hown0⟩
  clear hown0
  have hg1 : x.heap.size < w1.heap.size := (World.ownsRow.lt hown x.heap.size rfl).2
  have hB1 : Below x.heap.size x w1 := (Below.refl _ _).grown hgr (Nat.le_refl _) (fun k hk => by simp at hk)
  have hcell : ∀ k, k < n → ∃ v, w1.cell? ⟨x.heap.size, k, none⟩ = some v := by
    intro k hk
    have hl : k < xs.length := by rw [hown.1]; omega
    have := World.ownsRow.cells hown rfl k _ (List.getElem?_eq_getElem hl)
    rw [Addr.add_mid, Nat.zero_add] at this
    exact ⟨_, this⟩
  have hfz : ∀ k, w1.frozen? ⟨x.heap.size, k, none⟩ = false := fun k => World.ownsRow.frozenAt hown k
  clear hown hgr
  go_wp2_with fail
  go_loopw [4] (fun t y => ∃ k : Nat, k ≤ n ∧ t = .int .i64 k ∧ Below x.heap.size x y ∧ x.heap.size < y.heap.size ∧ (∀ j, j < n → ∃ v, y.cell? ⟨x.heap.size, j, none⟩ = some v) ∧ (∀ j, y.frozen? ⟨x.heap.size, j, none⟩ = false) ∧ (∀ j, j < k → y.cell? ⟨x.heap.size, j, none⟩ = some (.int .i64 (c.getD j 0)))) (fun t _ => n - (intOf t).toNat)
  case atStart => exact ⟨0, by omega, rfl, hB1, hg1, hcell, hfz, fun j hj => by omega⟩
  case round =>
    clear hB1 hg1 hcell hfz
    obtain ⟨k, hk, rfl, hB, hg, hcell, hfz, hdone⟩ := hrel
    by_cases hlt : k < n
    · rcases hc with h0 | ⟨g, o, rfl, hBg, hgE, hEx, _, hins⟩
      · omega
      have hgx : g < x.heap.size := by omega
      have hki : (k : Int) < (n : Int) := by omega
      have d0 := (hB.cell (p := ⟨g, o + k, none⟩) hgx).trans (hins k hlt)
      obtain ⟨u0, e0⟩ := hcell k hlt
      have f0 := hfz k
      have HC : Hid (∀ j, j < n → ∃ v, wr.cell? ⟨x.heap.size, j, none⟩ = some v) := hcell
      have HF : Hid (∀ j, wr.frozen? ⟨x.heap.size, j, none⟩ = false) := hfz
      have HD : Hid (∀ j, j < k → wr.cell? ⟨x.heap.size, j, none⟩ = some (.int .i64 (c.getD j 0))) := hdone
      clear hcell hdone hins hfz
      generalize hI : c.getD k 0 = I at d0
      have HII : Hid (c.getD k 0 = I) := hI
      clear hI
      go_wp2_with fail
      go_roundw
      case rel =>
        refine ⟨k + 1, by omega, by go_num, hB.setCell (by simp) _, by simpa using hg, fun j hj => cell?_setCell_some (HC.out j hj).choose_spec, fun j => (World.frozen?_setCell _ _ _ _).trans (HF.out j), fun j hj => ?_⟩
        by_cases hjk : j = k
        · subst hjk; rw [HII.out]; exact sc_same e0
        · exact (sc_other (by intro e; injection e; omega)).trans (HD.out j (by omega))
      case measure => simp [intOf]; omega
    · obtain rfl : k = n := by omega
      have hki : ¬ (k : Int) < (k : Int) := by omega
      have HD : Hid (∀ j, j < k → wr.cell? ⟨x.heap.size, j, none⟩ = some (.int .i64 (c.getD j 0))) := hdone
      have HF : Hid (∀ j, wr.frozen? ⟨x.heap.size, j, none⟩ = false) := hfz
      clear hcell hdone hc hfz
      go_wp2_with fail
      go_ret
      exact ⟨_, rfl, ⟨some ⟨x.heap.size, 0, none⟩, k, by rw [HL.out]; rfl, by rw [HL.out]; exact HM.out, .inr ⟨x.heap.size, 0, rfl, Nat.le_refl _, hg, Nat.le_refl _, fun _ => HF.out, fun j hj => by rw [Nat.zero_add]; rw [HL.out] at hj; exact HD.out j hj⟩⟩, hB⟩

theorem belowN (x : World) (n : Nat) : Below x.heap.size x (x.drewN n) := by
  induction n with
  | zero => exact Below.refl _ _
  | succ n ih => exact ih.drew
set_option maxHeartbeats 1000000 in
theorem eqIntS_same (x : World) (z z' : Bool) (B E C D : Nat) (v v' : Value) (L : List Int) (h : IntsAt z x B E v L) (h' : IntsAt z' x C D v' L) :
    Calls Try.prog 93 #[v, v'] x fun e y => e = .returned (.bool true) ∧ Below x.heap.size x y := by
  obtain ⟨p, cap, rfl, hm, hl⟩ := h
  obtain ⟨p', cap', rfl, _, hl'⟩ := h'
  unfold maxLen at hm
  generalize hn : L.length = n at *
  have hni : (n : Int) ≤ 9223372036854775807 := by omega
  clear hn hm
  go_enter Try.func93, Try.ntmps93
  go_wp2_with fail
  go_loopw [5] (fun i y => ∃ k : Nat, k ≤ n ∧ i = .int .i64 k ∧ ∃ q, y = x.drewN q) (fun i _ => n - (intOf i).toNat)
  case atStart => exact ⟨0, by omega, rfl, 0, rfl⟩
  case round =>
    obtain ⟨k, hk, rfl, q, rfl⟩ := hrel
    by_cases hlt : k < n
    · rcases hl with h0 | ⟨g, o, rfl, hBg, hgE, hEx, _, hins⟩
      · omega
      rcases hl' with h0 | ⟨g', o', rfl, hBg', hgE', hEx', _, hins'⟩
      · omega
      have c1 := hins k hlt
      have c2 := hins' k hlt
      have hi : (k : Int) < (n : Int) := by omega
      clear hins hins'
      generalize L.getD k 0 = z at c1 c2
      go_wp2
      go_quiet (fail)
      go_wp2
      go_roundw
      case rel => exact ⟨k + 1, by omega, by go_num, _, rfl⟩
      case measure => simp [intOf]; omega
    · have hi : ¬ (k : Int) < (n : Int) := by omega
      clear hl hl'
      go_wp2
      go_ret
      exact ⟨rfl, belowN x q⟩

section
variable {H : Type} {enc : TypeId × Value → H} {W : World} {spare : Nat → Bool} {held : Bool}
theorem open_ints_at {v : Value} {d : DataW H} {p : List MemPlace} {s : Option Addr} {n cap : Nat} (hv : v = .slice s n cap) (h : DataW.Trod enc Try.prog W 0 spare held 97 v d p) :
    ∃ L, IntsAt false W 0 W.heap.size v L := by
  subst hv
  obtain ⟨fuel, hf⟩ := h
  rcases open_ints Try.underlying97 Try.underlying3 (by kernel_rfl) hf with ⟨hcs, _⟩ | ⟨x, l, c, zs, hcs, _, hl, hm, hz, _, hcell, hwz⟩
  · simp [Value.cells] at hcs
    obtain ⟨rfl, rfl, rfl⟩ := hcs
    exact ⟨[], IntsAt.nil⟩
  · simp [Value.cells] at hcs
    obtain ⟨rfl, rfl, rfl⟩ := hcs
    have hlz : n ≤ zs.length := by rw [hz]; split <;> omega
    have hlen : (zs.take n).length = n := by rw [List.length_take]; omega
    refine ⟨zs.take n, some x, cap, by rw [hlen], by rw [hlen]; omega, ?_⟩
    rw [hlen]
    by_cases h0 : n = 0
    · exact .inl h0
    · right
      obtain ⟨b, off, rfl, hc⟩ := ints_at hcell (by omega)
      have hlt : b < W.heap.size := cell_lt (hc 0 (by omega))
      refine ⟨b, off, rfl, Nat.zero_le _, hlt, Nat.le_refl _, fun hz => (by cases hz), fun j hj => ?_⟩
      rw [hc j (by omega)]
      simp [List.getD, List.getElem?_take, hj]
end
end Go.Proofs.Ytbjegekfghihkaa

/-
  Runs in memory: what a frame, a slice of frames and a run read as.
-/
namespace Go.Proofs.Ytbjegekfghihkaa
open Go.RowKit
set_option linter.unusedVariables false
set_option linter.unusedSimpArgs false

/-- a frame: its four numbers (procedure, word, place, register), its registers, its cells -/
structure Fr where
  p : Int
  a : Int
  t : Int
  i : Int
  r : List Int
  c : List Int
deriving Inhabited
def fr0 : Fr := ⟨0, 0, 0, 0, [], []⟩
/-- a slice of numbers that stand somewhere -/
def IntsW (x : World) (u : Value) (L : List Int) : Prop := IntsAt false x 0 x.heap.size u L
theorem IntsW.later {x y : World} {u : Value} {L : List Int} (h : IntsW x u L) (hb : Below x.heap.size x y) : IntsW y u L := by
  have h2 := IntsAt.later h hb
  exact IntsAt.wide h2 (Nat.le_refl _) hb.size (Nat.le_refl _)
theorem IntsAt.any {z : Bool} {x : World} {B E : Nat} {u : Value} {L : List Int} (h : IntsAt z x B E u L) : IntsW x u L := by
  obtain ⟨p, cap, hv, hm, hq⟩ := h
  refine ⟨p, cap, hv, hm, hq.imp id ?_⟩
  rintro ⟨g, o, hp, hB, hg, hE, hf, hj⟩
  exact ⟨g, o, hp, Nat.zero_le _, by omega, Nat.le_refl _, fun h => (by cases h), hj⟩
theorem IntsW.shape {x : World} {u : Value} {L : List Int} (h : IntsW x u L) : ∃ p cap, u = .slice p L.length cap := IntsAt.shape h
theorem IntsW.len {x : World} {u : Value} {L : List Int} (h : IntsW x u L) : L.length ≤ maxLen := by obtain ⟨_, _, _, h, _⟩ := h; exact h
/-- the six cells of a frame -/
structure FrC (x : World) (g o : Nat) (f : Fr) : Prop where
  c0 : x.cell? ⟨g, o, none⟩ = some (.int .i64 f.p)
  c1 : x.cell? ⟨g, o + 1, none⟩ = some (.int .i64 f.a)
  c2 : x.cell? ⟨g, o + 2, none⟩ = some (.int .i64 f.t)
  c3 : ∃ u, x.cell? ⟨g, o + 3, none⟩ = some u ∧ IntsW x u f.r
  c4 : ∃ u, x.cell? ⟨g, o + 4, none⟩ = some u ∧ IntsW x u f.c
  c5 : x.cell? ⟨g, o + 5, none⟩ = some (.int .i64 f.i)
theorem FrC.later {x y : World} {g o : Nat} {f : Fr} (h : FrC x g o f) (hb : Below x.heap.size x y) (hg : g < x.heap.size) : FrC y g o f := by
  obtain ⟨c0, c1, c2, ⟨u3, c3, i3⟩, ⟨u4, c4, i4⟩, c5⟩ := h
  exact ⟨(hb.cell (p := ⟨g, _, none⟩) hg).trans c0, (hb.cell (p := ⟨g, _, none⟩) hg).trans c1, (hb.cell (p := ⟨g, _, none⟩) hg).trans c2, ⟨u3, (hb.cell (p := ⟨g, _, none⟩) hg).trans c3, i3.later hb⟩, ⟨u4, (hb.cell (p := ⟨g, _, none⟩) hg).trans c4, i4.later hb⟩, (hb.cell (p := ⟨g, _, none⟩) hg).trans c5⟩
/-- the slice value v reads as the frames F -/
def FrsAt (x : World) (v : Value) (F : List Fr) : Prop :=
  ∃ p cap, v = .slice p F.length cap ∧ F.length ≤ maxLen ∧ (F.length = 0 ∨ ∃ g o, p = some ⟨g, o, none⟩ ∧ g < x.heap.size ∧ ∀ j, j < F.length → FrC x g (o + j * 6) (F.getD j fr0))
theorem FrsAt.later {x y : World} {v : Value} {F : List Fr} (h : FrsAt x v F) (hb : Below x.heap.size x y) : FrsAt y v F := by
  obtain ⟨p, cap, hv, hm, hq⟩ := h
  refine ⟨p, cap, hv, hm, hq.imp id ?_⟩
  rintro ⟨g, o, hp, hg, hj⟩
  exact ⟨g, o, hp, Nat.lt_of_lt_of_le hg hb.size, fun j h => (hj j h).later hb hg⟩
theorem FrsAt.shape {x : World} {v : Value} {F : List Fr} (h : FrsAt x v F) : ∃ p cap, v = .slice p F.length cap ∧ F.length ≤ maxLen := by
  obtain ⟨p, cap, hv, hm, _⟩ := h
  exact ⟨p, cap, hv, hm⟩
theorem FrsAt.nil {x : World} {p : Option Addr} {cap : Nat} : FrsAt x (.slice p 0 cap) [] := ⟨p, cap, rfl, Nat.zero_le _, .inl rfl⟩
theorem FrsAt.frame {x : World} {p : Option Addr} {cap : Nat} {F : List Fr} (h : FrsAt x (.slice p F.length cap) F) {j : Nat} (hj : j < F.length) : ∃ g o, p = some ⟨g, o, none⟩ ∧ g < x.heap.size ∧ FrC x g (o + j * 6) (F.getD j fr0) := by
  obtain ⟨p', cap', hv, _, hq⟩ := h
  injection hv with e1
  subst e1
  rcases hq with h0 | ⟨g, o, hp, hg, hx⟩
  · omega
  · exact ⟨g, o, hp, hg, hx j hj⟩

end Go.Proofs.Ytbjegekfghihkaa
