import Derived.WalkKit
import Derived.Test.YtlkebkajdlgebaaGreatRows
import Derived.Handy
import Derived.WalkLawsBesides
import Derived.WalkSpells
import Derived.Deep.QuietTactic
import Derived.BigQuiet
/-
  The plain functions of words and spans that both the program and its model are shown to compute: no claim by itself.
-/
namespace Go.Proofs.YtlkebkajdlgebaaGreat

/-- the word that a number is -/
def wrapF (n : Int) : Int := if n.tmod 32 < -16 then n.tmod 32 + 32 else if 15 < n.tmod 32 then n.tmod 32 - 32 else n.tmod 32
def inB (n lo hi : Int) : Bool := decide (lo ≤ n ∧ n ≤ hi)
def isW (n : Int) : Bool := decide (-16 ≤ n ∧ n ≤ 15)
/-- what an operation gives, ahead of wrapping -/
def rawF (op a b : Int) : Int :=
  if op = 1 then a + b else if op = 2 then a - b else if op = 3 then a * b else if op = 4 then a.tdiv b
  else if op = 5 then (if a < b then 1 else 0) else if op = 6 then (if a = b then 1 else 0) else 0
/-- whether an operation can be done with two words -/
def canF (op b : Int) : Bool := decide (1 ≤ op ∧ op ≤ 6 ∧ ¬ (op = 4 ∧ b = 0))
def doOk (op a b : Int) : Bool := isW a && isW b && canF op b
def doF (op a b : Int) : Int := if doOk op a b = true then wrapF (rawF op a b) else 0

/-- a span: whether there are any, the least, the greatest -/
abbrev Sp := Bool × Int × Int
def noSp : Sp := (false, 0, 0)
def okF (any : Bool) (lo hi : Int) : Bool := if any = true then decide (-16 ≤ lo ∧ lo ≤ 15 ∧ -16 ≤ hi ∧ hi ≤ 15 ∧ lo ≤ hi) else decide (lo = 0 ∧ hi = 0)
def ofF (n : Int) : Sp := if isW n = true then (true, n, n) else noSp
def hasF (any : Bool) (lo hi n : Int) : Bool := any && okF any lo hi && decide (lo ≤ n ∧ n ≤ hi)
def inF (a : Bool) (al ah : Int) (b : Bool) (bl bh : Int) : Bool :=
  okF a al ah && okF b bl bh && (!a || (b && decide (bl ≤ al ∧ ah ≤ bh)))
def mkF (lo hi : Int) : Sp := if hi < lo then noSp else (true, lo, hi)
def joinF (a : Bool) (al ah : Int) (b : Bool) (bl bh : Int) : Sp :=
  if (okF a al ah && okF b bl bh) = false then noSp
  else if a = false then (b, bl, bh) else if b = false then (a, al, ah) else (true, min al bl, max ah bh)
def bothF (a : Bool) (al ah : Int) (b : Bool) (bl bh : Int) : Bool := okF a al ah && okF b bl bh && a && b
def meetF (a : Bool) (al ah : Int) (b : Bool) (bl bh : Int) : Sp :=
  if bothF a al ah b bl bh = true then mkF (max al bl) (min ah bh) else noSp
def downF (n : Int) : Int := if 0 ≤ n then 0 else if -4 ≤ n then -4 else -16
def upF (n : Int) : Int := if n ≤ 0 then 0 else if n ≤ 4 then 4 else 15
def wideF (a : Bool) (al ah : Int) (b : Bool) (bl bh : Int) : Sp :=
  if bothF a al ah b bl bh = true then
    (true, (if min al bl < al then downF (min al bl) else min al bl), (if ah < max ah bh then upF (max ah bh) else max ah bh))
  else joinF a al ah b bl bh
def kindF (k : Int) : Sp := if k = 0 then (true, -16, -1) else if k = 1 then (true, 0, 0) else if k = 2 then (true, 1, 15) else noSp

theorem wrapF_bd (n : Int) : -16 ≤ wrapF n ∧ wrapF n ≤ 15 := by
  unfold wrapF
  have h := Int.tmod_lt_of_pos n (b := 32) (by omega)
  have h2 := Int.lt_tmod_of_pos n (b := 32) (by omega)
  repeat' split
  all_goals omega

end Go.Proofs.YtlkebkajdlgebaaGreat

/-
  The contracts of the functions on words (NumWrap, NumDo and what they call), the program's and the model's, and the walks of the laws FnExactNumWrap and FnExactNumDo.
-/
namespace Go.Proofs.YtlkebkajdlgebaaGreat
open Go.RowKit
set_option linter.unusedVariables false

theorem ret_int {k : IntKind} {a b : Int} (h : a = b) : Ending.returned (.int k a) = .returned (.int k b) := by rw [h]
theorem ret_bool {a b : Bool} (h : a = b) : Ending.returned (.bool a) = .returned (.bool b) := by rw [h]
theorem ret_two {k : IntKind} {a b : Int} {c d : Bool} (h : a = b) (h' : c = d) : Ending.returned (.tuple #[.int k a, .bool c]) = .returned (.tuple #[.int k b, .bool d]) := by rw [h, h']

theorem st_nil (P : Program) (w : World) (a : Addr) (m : Mode) : (store a .nilFunc m).run P w = stored P w a .nilFunc m := run_store P w a _ m rfl
theorem st_fn (P : Program) (w : World) (a : Addr) (m : Mode) (fn : Fn) (x y : Array Value) : (store a (.func fn x y) m).run P w = stored P w a (.func fn x y) m := run_store P w a _ m rfl
attribute [local go_sem] st_nil st_fn

theorem isW_t {n : Int} (h : isW n = true) : -16 ≤ n ∧ n ≤ 15 := by simpa [isW] using h
theorem isW_f {n : Int} (h : isW n = false) : n < -16 ∨ 15 < n := by simp [isW] at h; omega
theorem isW_of {n : Int} (h1 : -16 ≤ n) (h2 : n ≤ 15) : isW n = true := by simp [isW]; omega

theorem isWord_any (n : Int) (w : World) : Calls Tryz.prog 104 #[.int .i64 n] w fun e w' => e = .returned (.bool (isW n)) ∧ w' = w := by
  by_cases h1 : -16 ≤ n
  · by_cases h2 : n ≤ 15
    · go_enter Tryz.func104, Tryz.ntmps104
      go_wp2
      go_ret
      exact ⟨ret_bool (by simp [isW]; omega), rfl⟩
    · go_enter Tryz.func104, Tryz.ntmps104
      go_wp2
      go_ret
      exact ⟨ret_bool (by simp [isW]; omega), rfl⟩
  · go_enter Tryz.func104, Tryz.ntmps104
    go_wp2
    go_ret
    exact ⟨ret_bool (by simp [isW]; omega), rfl⟩

theorem l6In_any (n lo hi : Int) (w : World) : Calls Tryz.prog 48 #[.int .i64 n, .int .i64 lo, .int .i64 hi] w fun e w' => e = .returned (.bool (inB n lo hi)) ∧ w' = w := by
  by_cases h1 : lo ≤ n
  · by_cases h2 : n ≤ hi
    · go_enter Tryz.func48, Tryz.ntmps48
      go_wp2
      go_ret
      exact ⟨ret_bool (by simp [inB]; omega), rfl⟩
    · go_enter Tryz.func48, Tryz.ntmps48
      go_wp2
      go_ret
      exact ⟨ret_bool (by simp [inB]; omega), rfl⟩
  · go_enter Tryz.func48, Tryz.ntmps48
    go_wp2
    go_ret
    exact ⟨ret_bool (by simp [inB]; omega), rfl⟩

theorem l1Word_any (n : Int) (w : World) : Calls Tryz.prog 73 #[.int .i64 n] w fun e w' => e = .returned (.bool (isW n)) ∧ w' = w := by
  go_enter Tryz.func73, Tryz.ntmps73
  go_wp2_with (go_at_call 48; refine (l6In_any _ _ _ _).mono ?_; rintro e w' ⟨rfl, rfl⟩)
  go_ret
  exact ⟨ret_bool rfl, rfl⟩

theorem op_cases (op : Int) : op = 1 ∨ op = 2 ∨ op = 3 ∨ op = 4 ∨ op = 5 ∨ op = 6 ∨ (op < 1 ∨ 6 < op) := by omega
/-- what the function of an operation gives: the number ahead of wrapping (nought where it cannot be), and whether it can be -/
def giveF (op a b : Int) : Int := if canF op b = true then rawF op a b else 0

theorem raw_bd (op a b : Int) (ha1 : -16 ≤ a) (ha2 : a ≤ 15) (hb1 : -16 ≤ b) (hb2 : b ≤ 15) : -256 ≤ rawF op a b ∧ rawF op a b ≤ 256 := by
  have hm : -256 ≤ a * b ∧ a * b ≤ 256 := by
    rcases Int.le_total 0 a with h | h <;> rcases Int.le_total 0 b with h' | h'
    · have := Int.mul_le_mul ha2 hb2 h' (by omega : (0:Int) ≤ 15); have := Int.mul_nonneg h h'; omega
    · have := Int.mul_le_mul ha2 (by omega : -b ≤ 16) (by omega : 0 ≤ -b) (by omega : (0:Int) ≤ 15); have := Int.mul_nonneg h (by omega : 0 ≤ -b); simp only [Int.mul_neg] at *; omega
    · have := Int.mul_le_mul (by omega : -a ≤ 16) hb2 h' (by omega : (0:Int) ≤ 16); have := Int.mul_nonneg (by omega : 0 ≤ -a) h'; simp only [Int.neg_mul] at *; omega
    · have := Int.mul_le_mul (by omega : -a ≤ 16) (by omega : -b ≤ 16) (by omega : 0 ≤ -b) (by omega : (0:Int) ≤ 16); have := Int.mul_nonneg (by omega : 0 ≤ -a) (by omega : 0 ≤ -b); simp only [Int.neg_mul, Int.mul_neg, Int.neg_neg] at *; omega
  have hd : (a.tdiv b).natAbs ≤ a.natAbs := Int.natAbs_tdiv_le_natAbs a b
  unfold rawF
  repeat' split
  all_goals omega

theorem ret_pair {a b : Int} {c d : Bool} (h : a = b) (h' : c = d) : Ending.returned (.tuple #[.int .i64 a, .bool c]) = .returned (.tuple #[.int .i64 b, .bool d]) := by rw [h, h']
theorem do_can {op a b : Int} (ha : isW a = true) (hb : isW b = true) : doOk op a b = canF op b := by simp [doOk, ha, hb]
theorem wrap0 : wrapF 0 = 0 := by decide
theorem do_give {op a b : Int} (ha : isW a = true) (hb : isW b = true) : doF op a b = wrapF (giveF op a b) := by
  unfold doF giveF; rw [do_can ha hb]; split
  · rfl
  · exact wrap0.symm
theorem can_out {op b : Int} (h : op < 1 ∨ 6 < op) : canF op b = false := by simp [canF]; omega
theorem give_out {op a b : Int} (h : op < 1 ∨ 6 < op) : giveF op a b = 0 := by simp [giveF, can_out h]

end Go.Proofs.YtlkebkajdlgebaaGreat

/-
  The contracts of the functions on one span and on two (ok, of, has, in), the program's and the model's.
-/
namespace Go.Proofs.YtlkebkajdlgebaaGreat
open Go.RowKit
set_option linter.unusedVariables false

theorem bcell {W w1 : World} (hb : Below W.heap.size W w1) : (∀ b o, b < W.heap.size → w1.cell? ⟨b, o, none⟩ = W.cell? ⟨b, o, none⟩) ∧ (∀ b o, b < W.heap.size → w1.frozen? ⟨b, o, none⟩ = W.frozen? ⟨b, o, none⟩) :=
  ⟨fun b o h => hb.cell (p := ⟨b, o, none⟩) h, fun b o h => hb.frozen (p := ⟨b, o, none⟩) h⟩


theorem okF_t {l u : Int} (h : -16 ≤ l ∧ l ≤ 15 ∧ -16 ≤ u ∧ u ≤ 15 ∧ l ≤ u) : okF true l u = true := by simp [okF]; omega
theorem okF_n {l u : Int} (h : ¬ (-16 ≤ l ∧ l ≤ 15 ∧ -16 ≤ u ∧ u ≤ 15 ∧ l ≤ u)) : okF true l u = false := by simp only [okF, if_true, decide_eq_false_iff_not]; exact h
theorem okF_d {l u : Int} (h1 : -16 ≤ l) (h2 : l ≤ 15) (h3 : -16 ≤ u) (h4 : u ≤ 15) : okF true l u = decide (l ≤ u) := by simp [okF, h1, h2, h3, h4]
/-- what is handed back is the span s -/
def RetSp (s : Sp) (e : Ending) : Prop := e = .returned (.agg #[.bool s.1, .int .i64 s.2.1, .int .i64 s.2.2])
theorem RetSp.out {s : Sp} {e : Ending} (h : RetSp s e) : ∃ a l u, Hid (s = (a, l, u)) ∧ e = .returned (.agg #[.bool a, .int .i64 l, .int .i64 u]) := ⟨s.1, s.2.1, s.2.2, rfl, h⟩
theorem RetSp.mk {s : Sp} {a : Bool} {l u : Int} (h : s = (a, l, u)) : RetSp s (.returned (.agg #[.bool a, .int .i64 l, .int .i64 u])) := by subst h; rfl

set_option maxHeartbeats 400000 in
theorem ok_spec (a : Bool) (l u : Int) (w : World) : Calls Tryz.prog 49 #[.agg #[.bool a, .int .i64 l, .int .i64 u]] w fun e w' => e = .returned (.bool (okF a l u)) ∧ Below w.heap.size w w' := by
  cases a
  · go_enter Tryz.func49, Tryz.ntmps49
    go_wp2
    all_goals
      go_ret
      exact ⟨ret_bool (by simp [okF, *]), by go_grown⟩
  · cases h1 : isW l
    · have h1' := isW_f h1
      go_enter Tryz.func49, Tryz.ntmps49
      go_wp2_with (go_at_call 73; refine (l1Word_any _ _).mono ?_; rintro e w' ⟨rfl, rfl⟩)
      go_ret
      exact ⟨ret_bool (okF_n (by omega)).symm, by go_grown⟩
    · have h1' := isW_t h1
      cases h2 : isW u
      · have h2' := isW_f h2
        go_enter Tryz.func49, Tryz.ntmps49
        go_wp2_with (go_at_call 73; refine (l1Word_any _ _).mono ?_; rintro e w' ⟨rfl, rfl⟩)
        go_ret
        exact ⟨ret_bool (okF_n (by omega)).symm, by go_grown⟩
      · have h2' := isW_t h2
        go_enter Tryz.func49, Tryz.ntmps49
        go_wp2_with (go_at_call 73; refine (l1Word_any _ _).mono ?_; rintro e w' ⟨rfl, rfl⟩)
        go_ret
        exact ⟨ret_bool (okF_d h1'.1 h1'.2 h2'.1 h2'.2).symm, by go_grown⟩

set_option maxHeartbeats 400000 in
theorem ok_impl (a : Bool) (l u : Int) (w : World) : Calls Tryz.prog 82 #[.agg #[.bool a, .int .i64 l, .int .i64 u]] w fun e w' => e = .returned (.bool (okF a l u)) ∧ Below w.heap.size w w' := by
  cases a
  · go_enter Tryz.func82, Tryz.ntmps82
    go_wp2
    all_goals
      go_ret
      exact ⟨ret_bool (by simp [okF, *]), by go_grown⟩
  · cases h1 : isW l
    · have h1' := isW_f h1
      go_enter Tryz.func82, Tryz.ntmps82
      go_wp2_with (go_at_call 104; refine (isWord_any _ _).mono ?_; rintro e w' ⟨rfl, rfl⟩)
      go_ret
      exact ⟨ret_bool (okF_n (by omega)).symm, by go_grown⟩
    · have h1' := isW_t h1
      cases h2 : isW u
      · have h2' := isW_f h2
        go_enter Tryz.func82, Tryz.ntmps82
        go_wp2_with (go_at_call 104; refine (isWord_any _ _).mono ?_; rintro e w' ⟨rfl, rfl⟩)
        go_ret
        exact ⟨ret_bool (okF_n (by omega)).symm, by go_grown⟩
      · have h2' := isW_t h2
        go_enter Tryz.func82, Tryz.ntmps82
        go_wp2_with (go_at_call 104; refine (isWord_any _ _).mono ?_; rintro e w' ⟨rfl, rfl⟩)
        go_ret
        exact ⟨ret_bool (okF_d h1'.1 h1'.2 h2'.1 h2'.2).symm, by go_grown⟩

set_option maxHeartbeats 400000 in
theorem toSpan_any (a : Bool) (l u : Int) (w : World) : Calls Tryz.prog 21 #[.agg #[.bool a, .int .i64 l, .int .i64 u]] w fun e w' => e = .returned (.agg #[.bool a, .int .i64 l, .int .i64 u]) ∧ Below w.heap.size w w' := by
  go_enter Tryz.func21, Tryz.ntmps21
  go_wp2
  go_returns
  exact ⟨rfl, by go_grown⟩

set_option maxHeartbeats 400000 in
theorem eqSpan_same (a : Bool) (l u : Int) (w : World) : Calls Tryz.prog 23 #[.agg #[.bool a, .int .i64 l, .int .i64 u], .agg #[.bool a, .int .i64 l, .int .i64 u]] w fun e w' => e = .returned (.bool true) ∧ Below w.heap.size w w' := by
  go_enter Tryz.func23, Tryz.ntmps23
  go_wp2
  go_ret
  exact ⟨rfl, by go_grown⟩

set_option maxHeartbeats 400000 in
theorem l1Of_any (lo hi : Int) (w : World) : Calls Tryz.prog 92 #[.int .i64 lo, .int .i64 hi] w fun e w' => RetSp (mkF lo hi) e ∧ Below w.heap.size w w' := by
  by_cases h : hi < lo
  · go_enter Tryz.func92, Tryz.ntmps92
    go_wp2
    go_returns
    exact ⟨RetSp.mk (by simp [mkF, h, noSp]), by go_grown⟩
  · go_enter Tryz.func92, Tryz.ntmps92
    go_wp2
    go_returns
    exact ⟨RetSp.mk (by unfold mkF; rw [if_neg (by omega)]), by go_grown⟩

end Go.Proofs.YtlkebkajdlgebaaGreat
