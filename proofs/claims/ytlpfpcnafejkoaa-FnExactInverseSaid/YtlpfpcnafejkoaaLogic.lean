/-
  Contracts of the functions of three truths (program and model): And3, Or3, Not3 give the same plain functions and3, or3, not3 at every pair of int64.
-/
import Derived.Test.YtlpfpcnafejkoaaRows
import Derived.WalkKit
import Derived.ProofKit
namespace Go.Proofs.Ytlpfpcnafejkoaa
open Go.RowKit

def not3 (a : Int) : Int := if a = 0 then 1 else if a = 1 then 0 else if a = 2 then 2 else -1
def tru (a : Int) : Bool := a == 0 || a == 1 || a == 2
def and3 (a b : Int) : Int := if !tru a || !tru b then -1 else if a = 0 ∨ b = 0 then 0 else if a = 1 ∧ b = 1 then 1 else 2
def or3 (a b : Int) : Int := if !tru a || !tru b then -1 else if a = 1 ∨ b = 1 then 1 else if a = 0 ∧ b = 0 then 0 else 2

theorem tri (a : Int) : a = 0 ∨ a = 1 ∨ a = 2 ∨ (a < 0 ∧ decide (0 ≤ a) = false ∧ (a == 0) = false ∧ (a == 1) = false ∧ (a == 2) = false) ∨ (2 < a ∧ decide (a ≤ 2) = false ∧ (a == 0) = false ∧ (a == 1) = false ∧ (a == 2) = false) := by
  simp only [beq_eq_false_iff_ne, ne_eq, decide_eq_false_iff_not]; omega

theorem tru_lo {a : Int} (h : a < 0) : tru a = false := by simp [tru]; omega
theorem tru_hi {a : Int} (h : 2 < a) : tru a = false := by simp [tru]; omega
theorem and3_a {a : Int} (h : tru a = false) (b : Int) : and3 a b = -1 := by simp [and3, h]
theorem and3_b {b : Int} (h : tru b = false) (a : Int) : and3 a b = -1 := by simp [and3, h]
theorem or3_a {a : Int} (h : tru a = false) (b : Int) : or3 a b = -1 := by simp [or3, h]
theorem or3_b {b : Int} (h : tru b = false) (a : Int) : or3 a b = -1 := by simp [or3, h]

end Go.Proofs.Ytlpfpcnafejkoaa
