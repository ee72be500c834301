/-
  Contracts on the ops of expressions: of two values, in the model.
-/
import Derived.Test.YtakhcgkhjmfndaaGreatOps
namespace Go.Proofs.YtakhcgkhjmfndaaGreat
open Go.RowKit

/-- Two values that came in, and the answer's place. -/
theorem boxes3 (w : World) (a b : Vl) (T : TypeId) :
    Row (((w.alloc (.cells #[.int .i64 a.k, .int .i64 a.n, .string a.s] T)).alloc (.cells #[.int .i64 b.k, .int .i64 b.n, .string b.s] T)).alloc (.cells #[.int .i64 0, .int .i64 0, .string ⟨#[]⟩] T)) w.heap.size T #[.int .i64 a.k, .int .i64 a.n, .string a.s] ∧
    Row (((w.alloc (.cells #[.int .i64 a.k, .int .i64 a.n, .string a.s] T)).alloc (.cells #[.int .i64 b.k, .int .i64 b.n, .string b.s] T)).alloc (.cells #[.int .i64 0, .int .i64 0, .string ⟨#[]⟩] T)) (w.heap.size + 1) T #[.int .i64 b.k, .int .i64 b.n, .string b.s] ∧
    Row (((w.alloc (.cells #[.int .i64 a.k, .int .i64 a.n, .string a.s] T)).alloc (.cells #[.int .i64 b.k, .int .i64 b.n, .string b.s] T)).alloc (.cells #[.int .i64 0, .int .i64 0, .string ⟨#[]⟩] T)) (w.heap.size + 1 + 1) T #[.int .i64 0, .int .i64 0, .string ⟨#[]⟩] ∧
    Below w.heap.size w (((w.alloc (.cells #[.int .i64 a.k, .int .i64 a.n, .string a.s] T)).alloc (.cells #[.int .i64 b.k, .int .i64 b.n, .string b.s] T)).alloc (.cells #[.int .i64 0, .int .i64 0, .string ⟨#[]⟩] T)) :=
  ⟨((Row.new w T _).alloc _).alloc _, (Row.newAt _ T _ _ (by simp only [size1])).alloc _, Row.newAt _ T _ _ (by simp only [size1]), (((Below.refl w.heap.size w).alloc (Nat.le_refl _) _).alloc (by simp only [size1]; omega) _).alloc (by simp only [size1]; omega) _⟩

theorem yes_ne (b : Bool) : ¬ yes b = -1 := by rcases yes01 b with h | h <;> omega
theorem eq3_ne (k n : Int) (s : ByteArray) (k' n' : Int) (s' : ByteArray) : ¬ eq3 k n s k' n' s' = -1 := by
  unfold eq3; split
  · exact yes_ne _
  · omega
theorem less3_ne (k n : Int) (s : ByteArray) (k' n' : Int) (s' : ByteArray) : ¬ less3 k n s k' n' s' = -1 := by
  unfold less3; split
  · exact yes_ne _
  · omega
theorem asOpt_some {a : Int} (h : ¬ a = -1) : asOpt a = some (asVl a) := by simp [asOpt, h]

theorem truOf_rng (v : Vl) : truOf v = -1 ∨ tru (truOf v) = true := by
  unfold truOf
  split
  · right; rfl
  · split
    · right; rcases yes01 (v.n != 0) with h | h <;> rw [h] <;> rfl
    · left; rfl
theorem and3_ne {a b : Vl} (ha : ¬ truOf a = -1) (hb : ¬ truOf b = -1) : ¬ and3 (truOf a) (truOf b) = -1 := by
  have h1 := (truOf_rng a).resolve_left ha
  have h2 := (truOf_rng b).resolve_left hb
  unfold and3
  simp only [h1, h2, Bool.not_true, Bool.or_self, Bool.false_eq_true, if_false]
  split
  · omega
  · split <;> omega
theorem or3_ne {a b : Vl} (ha : ¬ truOf a = -1) (hb : ¬ truOf b = -1) : ¬ or3 (truOf a) (truOf b) = -1 := by
  have h1 := (truOf_rng a).resolve_left ha
  have h2 := (truOf_rng b).resolve_left hb
  unfold or3
  simp only [h1, h2, Bool.not_true, Bool.or_self, Bool.false_eq_true, if_false]
  split
  · omega
  · split <;> omega


end Go.Proofs.YtakhcgkhjmfndaaGreat
