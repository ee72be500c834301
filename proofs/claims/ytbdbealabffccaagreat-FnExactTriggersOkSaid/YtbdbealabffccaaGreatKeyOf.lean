/-
  The key of a row: in the program and in the model.
-/
import Derived.Test.YtbdbealabffccaaGreatOwnVals
namespace Go.Proofs.YtbdbealabffccaaGreat
open Go.RowKit Go.Maps
set_option linter.unusedVariables false
set_option linter.unusedSimpArgs false

theorem infoValK : (Tryz.prog.info? 103).map (fun i => (i.zero, i.size, i.bytes)) = some (some (.agg #[.int .i64 0, .int .i64 0, .string ⟨#[]⟩]), 3, 32) := by kernel_rfl
def OwnV (w : World) (base : Nat) (v : Value) (xs : List Vl) : Prop := OwnG 103 3 Vl.cells w base v xs

theorem implPlaceK {p nc : Int} {b : Bool} (h : (decide (0 ≤ p) && decide (p < nc)) = b) (w : World) : Calls Tryz.prog 98 #[.int .i64 p, .int .i64 nc] w fun e w' => e = .returned (.bool b) ∧ w = w' := by
  subst h
  by_cases h0 : 0 ≤ p
  · have h0' : decide (0 ≤ p) = true := decide_eq_true h0
    go_enter Tryz.func98, Tryz.ntmps98
    go_wp2
    go_ret
    exact ⟨by simp [h0'], rfl⟩
  · have h0' : decide (0 ≤ p) = false := decide_eq_false h0
    go_enter Tryz.func98, Tryz.ntmps98
    go_wp2
    go_ret
    exact ⟨by simp [h0'], rfl⟩
theorem not_all_of {cols : List Int} {vals : List Vl} {k : Nat} (h : k < cols.length) (hf : inV vals cols[k] = false) : keyOk cols vals = false := by
  unfold keyOk
  rw [Bool.and_eq_false_iff]
  refine Or.inr ?_
  rw [List.all_eq_false]
  exact ⟨cols[k], List.getElem_mem h, by simp [hf]⟩

end Go.Proofs.YtbdbealabffccaaGreat
