/-
  Contracts on the order of values: ValOk, cmp.Compare, cmp.Or, Order, in the program and in the model.
-/
import Derived.Test.YtgmgjjoalpnmhaaHeld
import Derived.Deep.LoopGhost
namespace Go.Proofs.Ytgmgjjoalpnmhaa
open Go.RowKit

theorem heldYes (k n : Int) (s : ByteArray) (w : World) (h : valOkB k n s = true) :
    Calls Try.prog 25 #[.agg #[.int .i64 k, .int .i64 n, .string s]] w (HeldOk k n s w) := by
  unfold valOkB at h
  by_cases k0 : k = 0
  · subst k0
    simp at h
    obtain ⟨rfl, hs⟩ := h
    exact held0yes s w hs
  by_cases k1 : k = 1
  · subst k1
    simp at h
    exact held1yes n s w h.2 (by simpa using h.1)
  by_cases k2 : k = 2
  · subst k2
    simp at h
    obtain ⟨rfl, hs⟩ := h
    exact held2yes s w (by simpa using hs)
  · simp [k0, k1, k2] at h

theorem heldNo (k n : Int) (s : ByteArray) (w : World) (h : valOkB k n s = false) :
    Calls Try.prog 25 #[.agg #[.int .i64 k, .int .i64 n, .string s]] w (HeldNo w) := by
  unfold valOkB at h
  by_cases k0 : k = 0
  · subst k0
    by_cases hs : s.toList = []
    · by_cases hn : n = 0
      · simp [hs, hn] at h
      · exact held0n n s w hn
    · exact held0s n s w hs
  by_cases k1 : k = 1
  · subst k1
    by_cases hs : s.toList = []
    · refine held1no n s w hs ?_
      simpa [hs] using h
    · exact held1s n s w hs
  by_cases k2 : k = 2
  · subst k2
    by_cases hn : n = 0
    · subst hn
      refine held2no s w ?_
      simpa using h
    · exact held2n n s w hn
  · exact heldElse k n s w (by simpa using k0) (by simpa using k1) (by simpa using k2)

theorem implValOk (k n : Int) (s : ByteArray) (w : World) :
    Calls Try.prog 24 #[.agg #[.int .i64 k, .int .i64 n, .string s]] w fun e w' => e = .returned (.bool (valOkB k n s)) ∧ Below w.heap.size w w' := by
  have hb0 := (Below.refl w.heap.size w).alloc (Nat.le_refl _) (.cells #[.int .i64 k, .int .i64 n, .string s] 40)
  cases h : valOkB k n s
  · have H := Lib.hid h; clear h
    go_enter Try.func24, Try.ntmps24
    go_wp2_with fail
    refine (heldNo k n s _ H.out).mono ?_
    rintro e w1 ⟨rfl, hb⟩
    go_wp2
    go_ret
    exact ⟨rfl, hb0.trans (hb.mono (by simp))⟩
  · have H := Lib.hid h; clear h
    go_enter Try.func24, Try.ntmps24
    go_wp2_with fail
    refine (heldYes k n s _ H.out).mono ?_
    rintro e w1 ⟨rfl, hb⟩
    go_wp2
    go_ret
    exact ⟨rfl, hb0.trans (hb.mono (by simp))⟩

def cmpI (x y : Int) : Int := if x < y then -1 else if y < x then 1 else 0
def cmpS (x y : ByteArray) : Int := if Op.bytesLess x.toList y.toList = true then -1 else if x.toList = y.toList then 0 else 1
def firstNZ (x y z : Int) : Int := if x ≠ 0 then x else if y ≠ 0 then y else z

end Go.Proofs.Ytgmgjjoalpnmhaa
