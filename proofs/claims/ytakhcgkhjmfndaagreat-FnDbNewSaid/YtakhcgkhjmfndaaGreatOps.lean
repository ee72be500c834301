/-
  Contracts on the ops of expressions, of the model and of the program.
-/
import Derived.Test.YtakhcgkhjmfndaaGreatThree2
import Derived.Test.YtakhcgkhjmfndaaGreatVls
import Derived.Test.YtakhcgkhjmfndaaGreatEvalMath
import Derived.Test.YtakhcgkhjmfndaaGreatToks
import Derived.Deep.RegionHeld3
namespace Go.Proofs.YtakhcgkhjmfndaaGreat
open Go.RowKit

/-- A value and whether there is one. -/
def OptPost (o : Option Vl) (w : World) (e : Ending) (w' : World) : Prop := ∃ x : Vl, e = .returned (.tuple #[.agg #[.int .i64 x.k, .int .i64 x.n, .string x.s], .bool o.isSome]) ∧ (∀ v, o = some v → x = v) ∧ Below w.heap.size w w'

/-- The truth of a value as the model tells it: a number, and whether there is one. -/
def truN (v : Vl) : Int := if truOf v = -1 then 0 else truOf v
def truS (v : Vl) : Bool := decide (truOf v ≠ -1)

theorem Vl.kinds {v : Vl} (h : v.ok = true) : v.k = 0 ∨ v.k = 1 ∧ -1000000000 ≤ v.n ∧ v.n ≤ 1000000000 ∨ v.k = 2 := by
  unfold Vl.ok valOkB at h
  by_cases a : v.k = 0
  · exact .inl a
  by_cases b : v.k = 1
  · simp [b] at h
    exact .inr (.inl ⟨b, h.1.1, h.1.2⟩)
  by_cases c : v.k = 2
  · exact .inr (.inr c)
  · simp [a, b, c] at h

theorem sum_wraps {x y sg : Int} (hx : -1000000000 ≤ x ∧ x ≤ 1000000000) (hy : -1000000000 ≤ y ∧ y ≤ 1000000000) (hsg : sg = 1 ∨ sg = -1) : wrap64 (sg * y) = sg * y ∧ wrap64 (x + sg * y) = x + sg * y := by
  rcases hsg with rfl | rfl <;> unfold wrap64 <;> omega

end Go.Proofs.YtakhcgkhjmfndaaGreat
