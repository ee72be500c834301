/-
  Sizes as the exact laws count them: bytes of texts and elements of slices; -1 where more than what is left.
-/
import Derived.Test.YtakhcgkhjmfndaaGreatReads
import Derived.Test.YtakhcgkhjmfndaaGreatLawToks
namespace Go.Proofs.YtakhcgkhjmfndaaGreat
open Go.RowKit
set_option linter.unusedVariables false

/-- What is left of 'left' behind n; -1: it was not enough. -/
def szR (left : Int) (n : Nat) : Int := if left < n then -1 else left - n
theorem szR_cases (l : Int) (k : Nat) (_h0 : 0 ≤ l) : (l < k ∧ Hid (szR l k = -1)) ∨ (∃ l' : Int, Hid (szR l k = l') ∧ Hid (l' = l - k) ∧ 0 ≤ l' ∧ l' ≤ l ∧ (k : Int) ≤ l) := by
  by_cases h : l < k
  · exact .inl ⟨h, Lib.hid (if_pos h)⟩
  · exact .inr ⟨l - k, Lib.hid (if_neg h), Lib.hid rfl, by omega, by omega, by omega⟩
theorem szR_no {l : Int} {k : Nat} (h : l < k) : (-1 : Int) = szR l k := by unfold szR; rw [if_pos h]
theorem szR_yes {l m : Int} {k : Nat} (h0 : 0 ≤ m) (h : m = l - k) : m = szR l k := by unfold szR; rw [if_neg (by omega)]; exact h
theorem szR_some {l : Int} {k : Nat} (h : ¬ szR l k < 0) : (k : Int) ≤ l := by unfold szR at h; split at h <;> omega

/-- The size of a list whose elements have sizes. -/
def szL {α : Type} (f : α → Nat) (l : List α) : Nat := l.length + (l.map f).sum
theorem sum_take {α : Type} (f : α → Nat) (l : List α) (k : Nat) (h : k < l.length) : ((l.take (k + 1)).map f).sum = ((l.take k).map f).sum + f l[k] := by
  rw [List.take_succ_eq_append_getElem h, List.map_append, List.sum_append]; simp
theorem sum_take_le {α : Type} (f : α → Nat) (l : List α) (k : Nat) : ((l.take k).map f).sum ≤ (l.map f).sum := by
  have e : (l.map f).sum = ((l.take k).map f).sum + ((l.drop k).map f).sum := by rw [← List.sum_append, ← List.map_append, List.take_append_drop]
  omega
theorem sum_mem_le {α : Type} (f : α → Nat) (l : List α) (k : Nat) (h : k < l.length) : f l[k] ≤ (l.map f).sum := by
  have := sum_take f l k h
  have := sum_take_le f l (k + 1)
  omega
end Go.Proofs.YtakhcgkhjmfndaaGreat
