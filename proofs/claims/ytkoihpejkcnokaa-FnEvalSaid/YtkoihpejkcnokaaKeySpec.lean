/-
  The key of a row: in the model.
-/
import Derived.Test.YtkoihpejkcnokaaKeyOf
namespace Go.Proofs.Ytkoihpejkcnokaa
open Go.RowKit Go.Maps
set_option linter.unusedVariables false
set_option linter.unusedSimpArgs false

theorem specInK {n lo hi : Int} {b : Bool} (h : (decide (lo ≤ n) && decide (n ≤ hi)) = b) (w : World) :
    Calls Try.prog 37 #[.int .i64 n, .int .i64 lo, .int .i64 hi] w fun e w' => e = .returned (.bool b) ∧ w = w' := by
  subst h
  by_cases h0 : lo ≤ n
  · have h0' : decide (lo ≤ n) = true := decide_eq_true h0
    go_enter Try.func37, Try.ntmps37
    go_wp2
    go_ret
    exact ⟨by simp [h0'], rfl⟩
  · have h0' : decide (lo ≤ n) = false := decide_eq_false h0
    go_enter Try.func37, Try.ntmps37
    go_wp2
    go_ret
    exact ⟨by simp [h0'], rfl⟩

theorem grown_rowK {w w' : World} {row : Option Nat} (hg : w.grownBy w' row) {g : Nat} {T : TypeId} {cs : Array Value} (h : Row w g T cs) (hne : ∀ k, row = some k → k ≠ g) : Row w' g T cs :=
  (hg.block g (lt_of_block h) (fun e => hne g e.symm rfl)).trans h

end Go.Proofs.Ytkoihpejkcnokaa
