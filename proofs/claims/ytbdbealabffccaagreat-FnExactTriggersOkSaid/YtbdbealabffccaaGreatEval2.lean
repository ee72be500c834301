/-
  Contracts on the value of a part, whatever it is; rows that may be seen.
-/
import Derived.Test.YtbdbealabffccaaGreatEval
namespace Go.Proofs.YtbdbealabffccaaGreat
open Go.RowKit

theorem Vals.six {w : World} {B : Option Addr} {x y : Vl} (h : Vals w B 2 [x, y]) : ∃ b off, B = some ⟨b, off, none⟩ ∧ Six w b off x y := by
  obtain ⟨b, off, rfl, c0, c1, c2⟩ := h.at_ (i := 0) (by simp)
  obtain ⟨b', off', e, d0, d1, d2⟩ := h.at_ (i := 1) (by simp)
  cases e
  exact ⟨b, off, rfl, by simpa using c0, by simpa using c1, by simpa using c2, by simpa using d0, by simpa using d1, by simpa using d2⟩
theorem Vals.tri {w : World} {B : Option Addr} {x : Vl} (h : Vals w B 1 [x]) : ∃ b off, B = some ⟨b, off, none⟩ ∧ Tri w b off x := by
  obtain ⟨b, off, rfl, c0, c1, c2⟩ := h.at_ (i := 0) (by simp)
  exact ⟨b, off, rfl, by simpa using c0, by simpa using c1, by simpa using c2⟩

end Go.Proofs.YtbdbealabffccaaGreat
