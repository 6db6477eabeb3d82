/-
  The contracts of StateIn, the program's and the model's.
-/
import Derived.Test.YtbmjjmbimfdkoaaSPairs
import Derived.Test.YtbmjjmbimfdkoaaSOk
import Derived.Test.YtbmjjmbimfdkoaaSEq
import Derived.Test.YtbmjjmbimfdkoaaIn
namespace Go.Proofs.Ytbmjjmbimfdkoaa
open Go.RowKit Go.Shelf
set_option linter.unusedVariables false
set_option linter.unusedSimpArgs false
attribute [local go_sem] Oper.semAt_some

def inS (s t : Sp) : Bool := inF s.1 s.2.1 s.2.2 t.1 t.2.1 t.2.2
def stIn (a : Bool) (L : List Sp) (c : Sp) (b : Bool) (M : List Sp) (d : Sp) : Bool :=
  stOk a L c && stOk b M d && (if (a && b) = true then (upto (pairF L M c d) 4).all (fun p => inS p.1 p.2) else !a)
theorem inS_impl (a : Bool) (al ah : Int) (b : Bool) (bl bh : Int) (w : World) : Calls Try.prog 61 #[.agg #[.bool a, .int .i64 al, .int .i64 ah], .agg #[.bool b, .int .i64 bl, .int .i64 bh]] w fun e w' => e = .returned (.bool (inS (a, al, ah) (b, bl, bh))) ∧ Below w.heap.size w w' := in_impl a al ah b bl bh w
theorem stOk_len' {L : List Sp} {c : Sp} (h : stOk true L c = true) : L.length = 3 := by
  unfold stOk at h
  rw [if_pos rfl] at h
  simp at h
  exact h.1.1

theorem boxed_later {W W' : World} {B : Nat} {t : TypeId} {v : Value} (h : Boxed W B t v) (hb : Below W.heap.size W W') : Boxed W' B t v := (hb.block B h.lt).trans h
theorem keepsFrom_of_below {B : Nat} {W W' : World} (hb : Below W.heap.size W W') : KeepsFrom B W W' :=
  ⟨hb.size, fun k o _ hk _ => (hb.block k (Array.getElem?_eq_some_iff.1 hk).1).trans hk⟩
/-- a box of a span -/
def Bxs (W : World) (B : Nat) (s : Sp) : Prop := W.heap[B]? = some (.cells #[.bool s.1, .int .i64 s.2.1, .int .i64 s.2.2] 30 (0, 0))
theorem Bxs.lt {W : World} {B : Nat} {s : Sp} (h : Bxs W B s) : B < W.heap.size := (Array.getElem?_eq_some_iff.1 h).1
theorem Bxs.cells {W : World} {B : Nat} {s : Sp} (h : Bxs W B s) : W.cell? ⟨B, 0, none⟩ = some (.bool s.1) ∧ W.cell? ⟨B, 1, none⟩ = some (.int .i64 s.2.1) ∧ W.cell? ⟨B, 2, none⟩ = some (.int .i64 s.2.2) := by
  have h' : W.heap[B]? = some (.cells #[.bool s.1, .int .i64 s.2.1, .int .i64 s.2.2] 30 (0, 0)) := h
  simp [World.cell?, h']
theorem Bxs.new (W : World) (s : Sp) : Bxs (W.alloc (.cells #[.bool s.1, .int .i64 s.2.1, .int .i64 s.2.2] 30)) W.heap.size s := World.alloc_heap_new W _
theorem Bxs.alloc {W : World} {B : Nat} {s : Sp} (h : Bxs W B s) (o : Obj) : Bxs (W.alloc o) B s := (Below.heap_alloc W o B h.lt).trans h
theorem bxs_own {β : Type} (B : Nat) (f : β → Sp) : Own (fun s W => Bxs W B (f s)) := fun s X Y row hs hg hrow =>
  (hg.block B hs.lt (fun e' => by obtain ⟨o, ho, hc⟩ := hrow B e'.symm; rw [show X.heap[B]? = _ from hs] at ho; cases ho; cases hc)).trans hs

set_option maxHeartbeats 4000000 in
theorem stIn_early (x : World) (z z' : Bool) (B E C D : Nat) (a : Bool) (v : Value) (L : List Sp) (c : Bool) (l u : Int) (b : Bool) (v' : Value) (M : List Sp) (d : Bool) (l' u' : Int) (hh : (stOk a L (c, l, u) && stOk b M (d, l', u') && a && b) = false) (h : SpsAt z x B E v L) (h' : SpsAt z' x C D v' M) :
    Calls Try.prog 29 #[.agg #[.bool a, v, .bool c, .int .i64 l, .int .i64 u], .agg #[.bool b, v', .bool d, .int .i64 l', .int .i64 u']] x fun e y => e = .returned (.bool (stIn a L (c, l, u) b M (d, l', u'))) ∧ Below x.heap.size x y := by
  obtain ⟨p, cap, hv⟩ := h.shape
  obtain ⟨p', cap', hv'⟩ := h'.shape
  generalize hn : L.length = n at hv
  generalize hm : M.length = m at hv'
  subst hv hv'
  have HN : Hid (L.length = n) := hn
  have HM : Hid (M.length = m) := hm
  clear hn hm
  have hba : Below x.heap.size x (((x.alloc (.cells #[.bool a, .slice p n cap, .bool c, .int .i64 l, .int .i64 u] 32)).alloc (.cells #[.bool b, .slice p' m cap', .bool d, .int .i64 l', .int .i64 u'] 32)).alloc (.cells #[.bool false] 4)) := by go_grown
  have ka := ((Bx5.new x (.bool a) (.slice p n cap) (.bool c) (.int .i64 l) (.int .i64 u) 32).alloc (.cells #[.bool b, .slice p' m cap', .bool d, .int .i64 l', .int .i64 u'] 32)).alloc (.cells #[.bool false] 4)
  have kb := (Bx5.new (x.alloc (.cells #[.bool a, .slice p n cap, .bool c, .int .i64 l, .int .i64 u] 32)) (.bool b) (.slice p' m cap') (.bool d) (.int .i64 l') (.int .i64 u') 32).alloc (.cells #[.bool false] 4)
  have kr := Boxed.new ((x.alloc (.cells #[.bool a, .slice p n cap, .bool c, .int .i64 l, .int .i64 u] 32)).alloc (.cells #[.bool b, .slice p' m cap', .bool d, .int .i64 l', .int .i64 u'] 32)) 4 (.bool false)
  simp only [World.size_alloc] at kb kr
  have hZ : (((x.alloc (.cells #[.bool a, .slice p n cap, .bool c, .int .i64 l, .int .i64 u] 32)).alloc (.cells #[.bool b, .slice p' m cap', .bool d, .int .i64 l', .int .i64 u'] 32)).alloc (.cells #[.bool false] 4)).heap.size = x.heap.size + 3 := by simp
  have h3 := h.later hba
  have h3' := h'.later hba
  cases hoa : stOk a L (c, l, u)
  · go_enter Try.func29, Try.ntmps29
    go_wp2_with fail
    refine (stOk_impl _ z B E _ _ L _ _ _ h3).mono ?_
    rintro e w1 ⟨rfl, hb⟩
    rw [hoa]
    replace hba := hba.trans (hb.mono hba.size)
    replace ka := ka.later hb
    replace kb := kb.later hb
    replace kr := boxed_later kr hb
    replace h3 := h3.later hb
    replace h3' := h3'.later hb
    have hZ1 := hb.size
    clear hb
    obtain ⟨_, a0, a1, a2, a3, a4, _⟩ := id ka
    obtain ⟨_, b0, b1, b2, b3, b4, _⟩ := id kb
    have r0 := kr.cell
    have rf := kr.frozen
    go_wp2_with fail
    refine bodyPost_ret (v := .bool false) (by simp [results, Try.results29, go_sem, r0, rf, kr.lt]) rfl ⟨ret_bool ?_, ?_⟩
    · unfold stIn; rw [hoa]; simp
    · first | exact hba | exact hba.setCell (by first | (simp; done) | (simp; omega)) _
  cases hob : stOk b M (d, l', u')
  · go_enter Try.func29, Try.ntmps29
    go_wp2_with fail
    refine (stOk_impl _ z B E _ _ L _ _ _ h3).mono ?_
    rintro e w1 ⟨rfl, hb⟩
    rw [hoa]
    replace hba := hba.trans (hb.mono hba.size)
    replace ka := ka.later hb
    replace kb := kb.later hb
    replace kr := boxed_later kr hb
    replace h3 := h3.later hb
    replace h3' := h3'.later hb
    have hZ1 := hb.size
    clear hb
    obtain ⟨_, a0, a1, a2, a3, a4, _⟩ := id ka
    obtain ⟨_, b0, b1, b2, b3, b4, _⟩ := id kb
    have r0 := kr.cell
    have rf := kr.frozen
    go_wp2_with fail
    clear a0 a1 a2 a3 a4 b0 b1 b2 b3 b4 r0 rf
    refine (stOk_impl _ z' C D _ _ M _ _ _ h3').mono ?_
    rintro e w2 ⟨rfl, hb⟩
    rw [hob]
    replace hba := hba.trans (hb.mono hba.size)
    replace ka := ka.later hb
    replace kb := kb.later hb
    replace kr := boxed_later kr hb
    replace h3 := h3.later hb
    replace h3' := h3'.later hb
    have hZ2 := hb.size
    clear hb
    obtain ⟨_, a0, a1, a2, a3, a4, _⟩ := id ka
    obtain ⟨_, b0, b1, b2, b3, b4, _⟩ := id kb
    have r0 := kr.cell
    have rf := kr.frozen
    go_wp2_with fail
    refine bodyPost_ret (v := .bool false) (by simp [results, Try.results29, go_sem, r0, rf, kr.lt]) rfl ⟨ret_bool ?_, ?_⟩
    · unfold stIn; rw [hob]; simp
    · first | exact hba | exact hba.setCell (by first | (simp; done) | (simp; omega)) _
  cases a
  · go_enter Try.func29, Try.ntmps29
    go_wp2_with fail
    refine (stOk_impl _ z B E _ _ L _ _ _ h3).mono ?_
    rintro e w1 ⟨rfl, hb⟩
    rw [hoa]
    replace hba := hba.trans (hb.mono hba.size)
    replace ka := ka.later hb
    replace kb := kb.later hb
    replace kr := boxed_later kr hb
    replace h3 := h3.later hb
    replace h3' := h3'.later hb
    have hZ1 := hb.size
    clear hb
    obtain ⟨_, a0, a1, a2, a3, a4, _⟩ := id ka
    obtain ⟨_, b0, b1, b2, b3, b4, _⟩ := id kb
    have r0 := kr.cell
    have rf := kr.frozen
    go_wp2_with fail
    clear a0 a1 a2 a3 a4 b0 b1 b2 b3 b4 r0 rf
    refine (stOk_impl _ z' C D _ _ M _ _ _ h3').mono ?_
    rintro e w2 ⟨rfl, hb⟩
    rw [hob]
    replace hba := hba.trans (hb.mono hba.size)
    replace ka := ka.later hb
    replace kb := kb.later hb
    replace kr := boxed_later kr hb
    replace h3 := h3.later hb
    replace h3' := h3'.later hb
    have hZ2 := hb.size
    clear hb
    obtain ⟨_, a0, a1, a2, a3, a4, _⟩ := id ka
    obtain ⟨_, b0, b1, b2, b3, b4, _⟩ := id kb
    have r0 := kr.cell
    have rf := kr.frozen
    go_wp2_with fail
    refine bodyPost_ret (v := .bool true) (by simp [results, Try.results29, go_sem, r0, rf, kr.lt]) rfl ⟨ret_bool ?_, ?_⟩
    · unfold stIn; rw [hoa, hob]; simp
    · first | exact hba | exact hba.setCell (by first | (simp; done) | (simp; omega)) _
  cases b
  · go_enter Try.func29, Try.ntmps29
    go_wp2_with fail
    refine (stOk_impl _ z B E _ _ L _ _ _ h3).mono ?_
    rintro e w1 ⟨rfl, hb⟩
    rw [hoa]
    replace hba := hba.trans (hb.mono hba.size)
    replace ka := ka.later hb
    replace kb := kb.later hb
    replace kr := boxed_later kr hb
    replace h3 := h3.later hb
    replace h3' := h3'.later hb
    have hZ1 := hb.size
    clear hb
    obtain ⟨_, a0, a1, a2, a3, a4, _⟩ := id ka
    obtain ⟨_, b0, b1, b2, b3, b4, _⟩ := id kb
    have r0 := kr.cell
    have rf := kr.frozen
    go_wp2_with fail
    clear a0 a1 a2 a3 a4 b0 b1 b2 b3 b4 r0 rf
    refine (stOk_impl _ z' C D _ _ M _ _ _ h3').mono ?_
    rintro e w2 ⟨rfl, hb⟩
    rw [hob]
    replace hba := hba.trans (hb.mono hba.size)
    replace ka := ka.later hb
    replace kb := kb.later hb
    replace kr := boxed_later kr hb
    replace h3 := h3.later hb
    replace h3' := h3'.later hb
    have hZ2 := hb.size
    clear hb
    obtain ⟨_, a0, a1, a2, a3, a4, _⟩ := id ka
    obtain ⟨_, b0, b1, b2, b3, b4, _⟩ := id kb
    have r0 := kr.cell
    have rf := kr.frozen
    go_wp2_with fail
    refine bodyPost_ret (v := .bool false) (by simp [results, Try.results29, go_sem, r0, rf, kr.lt]) rfl ⟨ret_bool ?_, ?_⟩
    · unfold stIn; rw [hoa, hob]; simp
    · first | exact hba | exact hba.setCell (by first | (simp; done) | (simp; omega)) _
  rw [hoa, hob] at hh
  cases hh
end Go.Proofs.Ytbmjjmbimfdkoaa
