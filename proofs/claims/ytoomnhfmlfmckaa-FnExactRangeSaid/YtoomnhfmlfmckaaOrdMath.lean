/-
  The order of values as plain mathematics: it turns round, is 0 for values that are one, and goes on over a third.
-/
import Derived.Test.YtoomnhfmlfmckaaOrder2
namespace Go.Proofs.Ytoomnhfmlfmckaa
open Go.RowKit

theorem bl_irrefl : ∀ x : List UInt8, Op.bytesLess x x = false
  | [] => rfl
  | a :: x => by simp [Op.bytesLess, bl_irrefl x]
theorem bl_total : ∀ x y : List UInt8, Op.bytesLess x y = true ∨ x = y ∨ Op.bytesLess y x = true
  | [], [] => .inr (.inl rfl)
  | [], _ :: _ => .inl rfl
  | _ :: _, [] => .inr (.inr rfl)
  | a :: x, b :: y => by
    by_cases h : a < b
    · exact .inl (by simp [Op.bytesLess, h])
    by_cases h' : b < a
    · exact .inr (.inr (by simp [Op.bytesLess, h']))
    have e : a = b := by
      apply UInt8.toNat_inj.1
      rw [UInt8.lt_iff_toNat_lt] at h h'
      omega
    subst e
    rcases bl_total x y with k | k | k
    · exact .inl (by simp [Op.bytesLess, k])
    · exact .inr (.inl (by rw [k]))
    · exact .inr (.inr (by simp [Op.bytesLess, k]))
theorem bl_trans : ∀ x y z : List UInt8, Op.bytesLess x y = true → Op.bytesLess y z = true → Op.bytesLess x z = true
  | _, [], _, h, _ => by simp [Op.bytesLess] at h
  | _, _ :: _, [], _, h => by simp [Op.bytesLess] at h
  | [], _ :: _, _ :: _, _, _ => rfl
  | a :: x, b :: y, c :: z, h, k => by
    simp only [Op.bytesLess, Bool.or_eq_true, decide_eq_true_eq, Bool.and_eq_true, beq_iff_eq] at h k ⊢
    rcases h with h | ⟨rfl, h⟩ <;> rcases k with k | ⟨rfl, k⟩
    · left; rw [UInt8.lt_iff_toNat_lt] at *; omega
    · left; exact h
    · left; exact k
    · right; exact ⟨rfl, bl_trans x y z h k⟩
theorem bl_asymm {x y : List UInt8} (h : Op.bytesLess x y = true) : Op.bytesLess y x = false := by
  cases k : Op.bytesLess y x
  · rfl
  · have := bl_trans _ _ _ h k
    rw [bl_irrefl] at this
    exact this.symm

theorem cmpS_cases (x y : ByteArray) : (cmpS x y = -1 ∧ Op.bytesLess x.toList y.toList = true) ∨ (cmpS x y = 0 ∧ x.toList = y.toList) ∨ (cmpS x y = 1 ∧ Op.bytesLess y.toList x.toList = true) := by
  unfold cmpS
  rcases bl_total x.toList y.toList with h | h | h
  · left; simp [h]
  · right; left; rw [h, bl_irrefl]; simp
  · right; right
    have k := bl_asymm h
    have e : ¬ x.toList = y.toList := fun e => by rw [e, bl_irrefl] at h; cases h
    simp [h, k, e]
theorem cmpS_neg (x y : ByteArray) : cmpS y x = -cmpS x y := by
  rcases cmpS_cases x y with ⟨h, h'⟩ | ⟨h, h'⟩ | ⟨h, h'⟩ <;> rcases cmpS_cases y x with ⟨k, k'⟩ | ⟨k, k'⟩ | ⟨k, k'⟩
  · have := bl_asymm h'; rw [k'] at this; cases this
  · rw [k', bl_irrefl] at h'; cases h'
  · omega
  · rw [h', bl_irrefl] at k'; cases k'
  · omega
  · rw [h', bl_irrefl] at k'; cases k'
  · omega
  · rw [k', bl_irrefl] at h'; cases h'
  · have := bl_asymm h'; rw [k'] at this; cases this
theorem cmpS_le {x y z : ByteArray} (h : cmpS x y ≤ 0) (k : cmpS y z ≤ 0) : cmpS x z ≤ 0 ∧ (cmpS x z = 0 → cmpS x y = 0 ∧ cmpS y z = 0) := by
  rcases cmpS_cases x y with ⟨h1, h'⟩ | ⟨h1, h'⟩ | ⟨h1, h'⟩
  · have g : Op.bytesLess x.toList z.toList = true := by
      rcases cmpS_cases y z with ⟨k1, k'⟩ | ⟨k1, k'⟩ | ⟨k1, k'⟩
      · exact bl_trans _ _ _ h' k'
      · rw [← k']; exact h'
      · omega
    have e : cmpS x z = -1 := by simp [cmpS, g]
    omega
  · have e : cmpS x z = cmpS y z := by simp [cmpS, h']
    omega
  · omega
theorem cmpI_neg (x y : Int) : cmpI y x = -cmpI x y := by unfold cmpI; repeat' split <;> omega
theorem cmpI_cases (x y : Int) : (cmpI x y = -1 ∧ x < y) ∨ (cmpI x y = 0 ∧ x = y) ∨ (cmpI x y = 1 ∧ y < x) := by unfold cmpI; repeat' split <;> omega

theorem ordOk_neg (k n : Int) (s : ByteArray) (k' n' : Int) (s' : ByteArray) : ordOk k' n' s' k n s = -ordOk k n s k' n' s' := by
  unfold ordOk
  cases h : valOkB k n s
  · simp
  cases h' : valOkB k' n' s'
  · simp
  simp only [Bool.and_self, if_true]
  rw [← ord_eq h h', ← ord_eq h' h, cmpI_neg k k', cmpI_neg n n', cmpS_neg s s']
  unfold firstNZ; repeat' split <;> omega

theorem ordOk_bd (k n : Int) (s : ByteArray) (k' n' : Int) (s' : ByteArray) : -1 ≤ ordOk k n s k' n' s' ∧ ordOk k n s k' n' s' ≤ 1 := by
  unfold ordOk ordV; split <;> (try split) <;> (try split) <;> omega

theorem ordOk_zero {k n : Int} {s : ByteArray} {k' n' : Int} {s' : ByteArray} (h : valOkB k n s = true) (h' : valOkB k' n' s' = true) :
    ((k == k') = true ∧ (n == n') = true ∧ (s.toList == s'.toList) = true ∧ (ordOk k n s k' n' s' == 0) = true) ∨
    ((k == k') = false ∧ (ordOk k n s k' n' s' == 0) = false) ∨
    ((k == k') = true ∧ (n == n') = false ∧ (ordOk k n s k' n' s' == 0) = false) ∨
    ((k == k') = true ∧ (n == n') = true ∧ (s.toList == s'.toList) = false ∧ (ordOk k n s k' n' s' == 0) = false) := by
  unfold ordOk
  simp only [h, h', Bool.and_self, if_true]
  rw [← ord_eq h h']
  unfold firstNZ
  rcases cmpI_cases k k' with ⟨a, a'⟩ | ⟨a, a'⟩ | ⟨a, a'⟩
  · exact .inr (.inl ⟨beq_eq_false_iff_ne.2 (by omega), by simp [a]⟩)
  · have a2 : (k == k') = true := beq_iff_eq.2 a'
    rcases cmpI_cases n n' with ⟨b, b'⟩ | ⟨b, b'⟩ | ⟨b, b'⟩
    · exact .inr (.inr (.inl ⟨a2, beq_eq_false_iff_ne.2 (by omega), by simp [a, b]⟩))
    · have b2 : (n == n') = true := beq_iff_eq.2 b'
      rcases cmpS_cases s s' with ⟨c, c'⟩ | ⟨c, c'⟩ | ⟨c, c'⟩
      · exact .inr (.inr (.inr ⟨a2, b2, beq_eq_false_iff_ne.2 (fun e => by rw [e, bl_irrefl] at c'; cases c'), by simp [a, b, c]⟩))
      · exact .inl ⟨a2, b2, beq_iff_eq.2 c', by simp [a, b, c]⟩
      · exact .inr (.inr (.inr ⟨a2, b2, beq_eq_false_iff_ne.2 (fun e => by rw [e, bl_irrefl] at c'; cases c'), by simp [a, b, c]⟩))
    · exact .inr (.inr (.inl ⟨a2, beq_eq_false_iff_ne.2 (by omega), by simp [a, b]⟩))
  · exact .inr (.inl ⟨beq_eq_false_iff_ne.2 (by omega), by simp [a]⟩)

theorem ordOk_le {k n : Int} {s : ByteArray} {k' n' : Int} {s' : ByteArray} {k2 n2 : Int} {s2 : ByteArray} (h : valOkB k n s = true) (h' : valOkB k' n' s' = true) (h2 : valOkB k2 n2 s2 = true)
    (a : ordOk k n s k' n' s' ≤ 0) (b : ordOk k' n' s' k2 n2 s2 ≤ 0) : ordOk k n s k2 n2 s2 ≤ 0 := by
  unfold ordOk at *
  simp only [h, h', h2, Bool.and_self, if_true] at a b ⊢
  rw [← ord_eq h h'] at a
  rw [← ord_eq h' h2] at b
  rw [← ord_eq h h2]
  unfold firstNZ at *
  rcases cmpI_cases k k' with ⟨x, x'⟩ | ⟨x, x'⟩ | ⟨x, x'⟩ <;> rcases cmpI_cases k' k2 with ⟨y, y'⟩ | ⟨y, y'⟩ | ⟨y, y'⟩ <;> rcases cmpI_cases k k2 with ⟨z, z'⟩ | ⟨z, z'⟩ | ⟨z, z'⟩ <;> simp [x, y, z] at a b ⊢ <;> try omega
  rcases cmpI_cases n n' with ⟨x, x'⟩ | ⟨x, x'⟩ | ⟨x, x'⟩ <;> rcases cmpI_cases n' n2 with ⟨y, y'⟩ | ⟨y, y'⟩ | ⟨y, y'⟩ <;> rcases cmpI_cases n n2 with ⟨z, z'⟩ | ⟨z, z'⟩ | ⟨z, z'⟩ <;> simp [x, y, z] at a b ⊢ <;> try omega
  exact (cmpS_le a b).1

theorem implOrderNeg (k n : Int) (s : ByteArray) (k' n' : Int) (s' : ByteArray) (w : World) :
    Calls Try.prog 31 #[.agg #[.int .i64 k', .int .i64 n', .string s'], .agg #[.int .i64 k, .int .i64 n, .string s]] w fun e w' => e = .returned (.int .i64 (-ordOk k n s k' n' s')) ∧ Below w.heap.size w w' := by
  refine (implOrder k' n' s' k n s w).mono ?_
  rintro e w' ⟨rfl, hb⟩
  exact ⟨by rw [ordOk_neg k n s k' n' s'], hb⟩
end Go.Proofs.Ytoomnhfmlfmckaa
