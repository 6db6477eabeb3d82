/-
  The plain functions of words and spans that both the program and its model are shown to compute: no claim by itself.
-/
import Derived.WalkKit
namespace Go.Proofs.Ytifpijindmdboaa

/-- the word that a number is -/
def wrapF (n : Int) : Int := if n.tmod 32 < -16 then n.tmod 32 + 32 else if 15 < n.tmod 32 then n.tmod 32 - 32 else n.tmod 32
def inB (n lo hi : Int) : Bool := decide (lo ≤ n ∧ n ≤ hi)
def isW (n : Int) : Bool := decide (-16 ≤ n ∧ n ≤ 15)
/-- what an operation gives, ahead of wrapping -/
def rawF (op a b : Int) : Int :=
  if op = 1 then a + b else if op = 2 then a - b else if op = 3 then a * b else if op = 4 then a.tdiv b
  else if op = 5 then (if a < b then 1 else 0) else if op = 6 then (if a = b then 1 else 0) else 0
/-- whether an operation can be done with two words -/
def canF (op b : Int) : Bool := decide (1 ≤ op ∧ op ≤ 6 ∧ ¬ (op = 4 ∧ b = 0))
def doOk (op a b : Int) : Bool := isW a && isW b && canF op b
def doF (op a b : Int) : Int := if doOk op a b = true then wrapF (rawF op a b) else 0

/-- a span: whether there are any, the least, the greatest -/
abbrev Sp := Bool × Int × Int
def noSp : Sp := (false, 0, 0)
def okF (any : Bool) (lo hi : Int) : Bool := if any = true then decide (-16 ≤ lo ∧ lo ≤ 15 ∧ -16 ≤ hi ∧ hi ≤ 15 ∧ lo ≤ hi) else decide (lo = 0 ∧ hi = 0)
def ofF (n : Int) : Sp := if isW n = true then (true, n, n) else noSp
def hasF (any : Bool) (lo hi n : Int) : Bool := any && okF any lo hi && decide (lo ≤ n ∧ n ≤ hi)
def inF (a : Bool) (al ah : Int) (b : Bool) (bl bh : Int) : Bool :=
  okF a al ah && okF b bl bh && (!a || (b && decide (bl ≤ al ∧ ah ≤ bh)))
def mkF (lo hi : Int) : Sp := if hi < lo then noSp else (true, lo, hi)
def joinF (a : Bool) (al ah : Int) (b : Bool) (bl bh : Int) : Sp :=
  if (okF a al ah && okF b bl bh) = false then noSp
  else if a = false then (b, bl, bh) else if b = false then (a, al, ah) else (true, min al bl, max ah bh)
def bothF (a : Bool) (al ah : Int) (b : Bool) (bl bh : Int) : Bool := okF a al ah && okF b bl bh && a && b
def meetF (a : Bool) (al ah : Int) (b : Bool) (bl bh : Int) : Sp :=
  if bothF a al ah b bl bh = true then mkF (max al bl) (min ah bh) else noSp
def downF (n : Int) : Int := if 0 ≤ n then 0 else if -4 ≤ n then -4 else -16
def upF (n : Int) : Int := if n ≤ 0 then 0 else if n ≤ 4 then 4 else 15
def wideF (a : Bool) (al ah : Int) (b : Bool) (bl bh : Int) : Sp :=
  if bothF a al ah b bl bh = true then
    (true, (if min al bl < al then downF (min al bl) else min al bl), (if ah < max ah bh then upF (max ah bh) else max ah bh))
  else joinF a al ah b bl bh
def kindF (k : Int) : Sp := if k = 0 then (true, -16, -1) else if k = 1 then (true, 0, 0) else if k = 2 then (true, 1, 15) else noSp

theorem wrapF_bd (n : Int) : -16 ≤ wrapF n ∧ wrapF n ≤ 15 := by
  unfold wrapF
  have h := Int.tmod_lt_of_pos n (b := 32) (by omega)
  have h2 := Int.lt_tmod_of_pos n (b := 32) (by omega)
  repeat' split
  all_goals omega

end Go.Proofs.Ytifpijindmdboaa
