/-
  Contracts of what the exact laws do with lists of values: their size, their copy, and whether two are one.
-/
import Derived.Test.YtakhcgkhjmfndaaGreatLawToks
import Derived.Test.YtakhcgkhjmfndaaGreatVls
import Derived.Deep.RegionHeld3
namespace Go.Proofs.YtakhcgkhjmfndaaGreat
open Go.RowKit

/-- An answer of a size: less than 0, or no more than what was left, and then no value is larger. -/
def SzVals (left : Int) (vs : List Vl) (w : World) (e : Ending) (w' : World) : Prop :=
  ∃ m : Int, e = .returned (.int .i64 m) ∧ m ≤ left ∧ (0 ≤ m → vs.length ≤ left ∧ ∀ v ∈ vs, (v.s.size : Int) ≤ left) ∧ Below w.heap.size w w'

/-- A slice of values that a call has made. -/
def MadeVals (n : Nat) (vs : List Vl) (w : World) (e : Ending) (w' : World) : Prop := ∃ A c, e = .returned (.slice A n c) ∧ Vals w' A n vs ∧ Below w.heap.size w w'

theorem infoVal : (Tryz.prog.info? 57).map (fun i => (i.zero, i.size, i.bytes)) = some (some (.agg #[.int .i64 0, .int .i64 0, .string ⟨#[]⟩]), 3, 32) := by kernel_rfl

theorem Laid.more3 {cs : Array Value} {k : Nat} {vs : List Vl} (h : Laid cs 3 k (vs.map Vl.cells)) (hk : k < vs.length) (hs : k * 3 + 3 ≤ cs.size) :
    Laid (((cs.setIfInBounds (k * 3) (.int .i64 vs[k].k)).setIfInBounds (k * 3 + 1) (.int .i64 vs[k].n)).setIfInBounds (k * 3 + 2) (.string vs[k].s)) 3 (k + 1) (vs.map Vl.cells) := by
  have h' : Laid cs 3 k ((vs.take k).map Vl.cells) := fun i j v c hi hc hj => h i j v c hi (by
    rw [List.getElem?_map, List.getElem?_take_of_lt hi] at hc
    rw [List.getElem?_map]; exact hc) hj
  have := h'.snoc3 (by simp; omega) (fun c hc => by obtain ⟨v, _, rfl⟩ := List.mem_map.1 hc; rfl) (Nat.le_refl k) (.int .i64 vs[k].k) (.int .i64 vs[k].n) (.string vs[k].s) hs
  intro i j v c hi hc hj
  refine this i j v c hi ?_ hj
  rw [← List.map_take, List.take_take, Nat.min_self]
  by_cases e : i < k
  · rw [List.getElem?_append_left (by simp; omega), List.getElem?_map, List.getElem?_take_of_lt e, ← List.getElem?_map]; exact hc
  · obtain rfl : i = k := by omega
    rw [List.getElem?_append_right (by simp; omega)]
    rw [List.getElem?_map, List.getElem?_eq_getElem hk] at hc
    simp at hc
    subst hc
    have : (List.map Vl.cells (List.take i vs)).length = i := by simp; omega
    rw [this]
    simp [Vl.cells]

/-- A slice of values among the arguments. -/
def IsVals (w : World) (a : Option Addr) (n : Nat) (vs : List Vl) : Prop := Vals w a n vs ∧ n ≤ maxLen ∧ ∀ v ∈ vs, v.s.size ≤ maxLen

end Go.Proofs.YtakhcgkhjmfndaaGreat
