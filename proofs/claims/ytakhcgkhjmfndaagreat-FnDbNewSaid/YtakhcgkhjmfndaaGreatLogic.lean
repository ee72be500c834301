/-
  Contracts of the functions of three truths (program and model): And3, Or3, Not3 give the same plain functions and3, or3, not3 at every pair of int64.
-/
import Derived.Test.YtakhcgkhjmfndaaGreatRows
import Derived.WalkKit
import Derived.ProofKit
namespace Go.Proofs.YtakhcgkhjmfndaaGreat
open Go.RowKit

def not3 (a : Int) : Int := if a = 0 then 1 else if a = 1 then 0 else if a = 2 then 2 else -1
def tru (a : Int) : Bool := a == 0 || a == 1 || a == 2
def and3 (a b : Int) : Int := if !tru a || !tru b then -1 else if a = 0 ∨ b = 0 then 0 else if a = 1 ∧ b = 1 then 1 else 2
def or3 (a b : Int) : Int := if !tru a || !tru b then -1 else if a = 1 ∨ b = 1 then 1 else if a = 0 ∧ b = 0 then 0 else 2

theorem tri (a : Int) : a = 0 ∨ a = 1 ∨ a = 2 ∨ (a < 0 ∧ decide (0 ≤ a) = false ∧ (a == 0) = false ∧ (a == 1) = false ∧ (a == 2) = false) ∨ (2 < a ∧ decide (a ≤ 2) = false ∧ (a == 0) = false ∧ (a == 1) = false ∧ (a == 2) = false) := by
  simp only [beq_eq_false_iff_ne, ne_eq, decide_eq_false_iff_not]; omega

theorem implNot3 (a : Int) (w : World) :
    Calls Tryz.prog 97 #[.int .i64 a] w fun e w' => e = .returned (.int .i64 (not3 a)) ∧ w = w' := by
  rcases tri a with rfl | rfl | rfl | ⟨h, hd, h0, h1, h2⟩ | ⟨h, hd, h0, h1, h2⟩
  case' inr.inr.inr.inl => rw [show not3 a = -1 by unfold not3; rw [if_neg (by omega), if_neg (by omega), if_neg (by omega)]]
  case' inr.inr.inr.inr => rw [show not3 a = -1 by unfold not3; rw [if_neg (by omega), if_neg (by omega), if_neg (by omega)]]
  all_goals
    go_enter Tryz.func97, Tryz.ntmps97
    go_wp2
    go_ret
    exact ⟨rfl, rfl⟩

theorem tru_lo {a : Int} (h : a < 0) : tru a = false := by simp [tru]; omega
theorem tru_hi {a : Int} (h : 2 < a) : tru a = false := by simp [tru]; omega
theorem and3_a {a : Int} (h : tru a = false) (b : Int) : and3 a b = -1 := by simp [and3, h]
theorem and3_b {b : Int} (h : tru b = false) (a : Int) : and3 a b = -1 := by simp [and3, h]
theorem or3_a {a : Int} (h : tru a = false) (b : Int) : or3 a b = -1 := by simp [or3, h]
theorem or3_b {b : Int} (h : tru b = false) (a : Int) : or3 a b = -1 := by simp [or3, h]

theorem implAnd3 (a b : Int) (w : World) :
    Calls Tryz.prog 95 #[.int .i64 a, .int .i64 b] w fun e w' => e = .returned (.int .i64 (and3 a b)) ∧ w = w' := by
  rcases tri a with rfl | rfl | rfl | ⟨h, hd, h0, h1, h2⟩ | ⟨h, hd, h0, h1, h2⟩ <;> rcases tri b with rfl | rfl | rfl | ⟨k, kd, k0, k1, k2⟩ | ⟨k, kd, k0, k1, k2⟩
  all_goals
    first
    | rw [and3_a (tru_lo ‹_›)]
    | rw [and3_a (tru_hi ‹_›)]
    | rw [and3_b (tru_lo ‹_›)]
    | rw [and3_b (tru_hi ‹_›)]
    | skip
  all_goals
    go_enter Tryz.func95, Tryz.ntmps95
    go_wp2
    go_ret
    exact ⟨rfl, rfl⟩

theorem implOr3 (a b : Int) (w : World) :
    Calls Tryz.prog 96 #[.int .i64 a, .int .i64 b] w fun e w' => e = .returned (.int .i64 (or3 a b)) ∧ w = w' := by
  rcases tri a with rfl | rfl | rfl | ⟨h, hd, h0, h1, h2⟩ | ⟨h, hd, h0, h1, h2⟩ <;> rcases tri b with rfl | rfl | rfl | ⟨k, kd, k0, k1, k2⟩ | ⟨k, kd, k0, k1, k2⟩
  all_goals
    first
    | rw [or3_a (tru_lo ‹_›)]
    | rw [or3_a (tru_hi ‹_›)]
    | rw [or3_b (tru_lo ‹_›)]
    | rw [or3_b (tru_hi ‹_›)]
    | skip
  all_goals
    go_enter Tryz.func96, Tryz.ntmps96
    go_wp2
    go_ret
    exact ⟨rfl, rfl⟩

end Go.Proofs.YtakhcgkhjmfndaaGreat
