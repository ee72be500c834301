/-
  Contracts of what the exact laws do with a Val: its size, its copy.
-/
import Derived.Test.YtlpfpcnafejkoaaOrder
namespace Go.Proofs.Ytlpfpcnafejkoaa
open Go.RowKit

def szN (left : Int) (s : ByteArray) : Int := if left - s.size < 0 then -1 else left - s.size

theorem lawsSzVal (k n : Int) (s : ByteArray) (left : Int) (w : World) (h0 : 0 ≤ left) (h1 : left ≤ 1048576) (hs : s.size ≤ maxLen) :
    Calls Try.prog 47 #[.agg #[.int .i64 k, .int .i64 n, .string s], .int .i64 left] w fun e w' => e = .returned (.int .i64 (szN left s)) ∧ Below w.heap.size w w' := by
  unfold maxLen at hs
  unfold szN
  by_cases h : left - s.size < 0
  · rw [if_pos h]
    go_enter Try.func47, Try.ntmps47
    go_wp2
    go_ret
    exact ⟨rfl, (Below.refl _ _).alloc (Nat.le_refl _) _⟩
  · rw [if_neg h]
    have h' : decide (left - (s.size : Int) < 0) = false := by simpa using h
    go_enter Try.func47, Try.ntmps47
    go_wp2
    go_ret
    exact ⟨rfl, (Below.refl _ _).alloc (Nat.le_refl _) _⟩

set_option maxHeartbeats 400000 in
theorem lawsToVal (k n : Int) (s : ByteArray) (w : World) :
    Calls Try.prog 52 #[.agg #[.int .i64 k, .int .i64 n, .string s]] w fun e w' => e = .returned (.agg #[.int .i64 k, .int .i64 n, .string s]) ∧ Below w.heap.size w w' := by
  go_enter Try.func52, Try.ntmps52
  go_wp2
  exact bodyPost_ret (v := .agg #[.int .i64 k, .int .i64 n, .string s]) (by simp [results, Try.results52, go_sem]) rfl
    ⟨rfl, (((Below.refl _ _).alloc (Nat.le_refl _) _).alloc (by simp) _).alloc (by simp; omega) _⟩
end Go.Proofs.Ytlpfpcnafejkoaa
