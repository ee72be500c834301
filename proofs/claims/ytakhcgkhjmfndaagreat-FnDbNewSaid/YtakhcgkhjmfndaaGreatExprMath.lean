/-
  Expressions as plain mathematics: the parts, which are right, how many values each takes, and whether a whole expression is right.
-/
import Derived.Test.YtakhcgkhjmfndaaGreatVals
namespace Go.Proofs.YtakhcgkhjmfndaaGreat
open Go.RowKit

/-- A value, by its fields. -/
structure Vl where
  k : Int
  n : Int
  s : ByteArray

/-- A part of an expression, by its fields. -/
structure Tk where
  k : Int
  c : Int
  vk : Int
  vn : Int
  vs : ByteArray

/-- Whether a value is the zero value. -/
def zeroB (k n : Int) (s : ByteArray) : Bool := k == 0 && (n == 0 && s.toList.isEmpty)

def isOpB (k : Int) : Bool := decide (3 ≤ k) && decide (k ≤ 10)

def tokB (t : Tk) (cols : Int) : Bool :=
  if t.k = 1 then decide (0 ≤ t.c) && (decide (t.c < cols) && zeroB t.vk t.vn t.vs)
  else if t.k = 2 then t.c == 0 && valOkB t.vk t.vn t.vs
  else if isOpB t.k then t.c == 0 && zeroB t.vk t.vn t.vs else false

/-- How many values a part takes. -/
def takes (k : Int) : Nat := if k = 7 ∨ k = 8 then 1 else if k = 3 ∨ k = 4 ∨ k = 5 ∨ k = 6 ∨ k = 9 ∨ k = 10 then 2 else 0

/-- How many values are left behind the parts; none: they are not right. -/
def exprGo (cols : Int) : List Tk → Nat → Option Nat
  | [], left => some left
  | t :: ts, left => if tokB t cols = true ∧ takes t.k ≤ left then exprGo cols ts (left - takes t.k + 1) else none

def exprB (ts : List Tk) (cols : Int) : Bool := decide (0 ≤ cols) && (decide (cols ≤ 16) && (decide (ts.length ≤ 24) && exprGo cols ts 0 == some 1))

theorem exprGo_append (cols : Int) : ∀ (a b : List Tk) (n : Nat), exprGo cols (a ++ b) n = (exprGo cols a n).bind (exprGo cols b)
  | [], b, n => rfl
  | t :: ts, b, n => by
    simp only [List.cons_append, exprGo]
    split
    · exact exprGo_append cols ts b _
    · rfl

theorem takes_le (k : Int) : takes k ≤ 2 := by unfold takes; split <;> (try split) <;> omega

theorem exprGo_le (cols : Int) : ∀ (a : List Tk) (n m : Nat), exprGo cols a n = some m → m ≤ n + a.length
  | [], n, m, h => by simp [exprGo] at h; omega
  | t :: ts, n, m, h => by
    simp only [exprGo] at h
    split at h
    · have := exprGo_le cols ts _ _ h
      simp; omega
    · cases h

/-- The first i parts and one more. -/
theorem exprGo_snoc (cols : Int) (ts : List Tk) (i : Nat) (hi : i < ts.length) (n m : Nat) (h : exprGo cols (ts.take i) n = some m) :
    exprGo cols (ts.take (i + 1)) n = if tokB ts[i] cols = true ∧ takes ts[i].k ≤ m then some (m - takes ts[i].k + 1) else none := by
  rw [List.take_succ_eq_append_getElem hi, exprGo_append, h]
  simp [exprGo]

/-- Once it is not right it stays so. -/
theorem exprGo_dead (cols : Int) (ts : List Tk) (i : Nat) (n : Nat) (h : exprGo cols (ts.take i) n = none) : exprGo cols ts n = none := by
  have e : ts = ts.take i ++ ts.drop i := (List.take_append_drop i ts).symm
  rw [e, exprGo_append, h]
  rfl
end Go.Proofs.YtakhcgkhjmfndaaGreat
