/-
  Contracts on Equal3 and Less3, in the program and in the model.
-/
import Derived.Test.YtakhcgkhjmfndaaGreatOrder2
namespace Go.Proofs.YtakhcgkhjmfndaaGreat
open Go.RowKit

theorem bytesLess_irrefl (l : List UInt8) : Op.bytesLess l l = false := by
  induction l with
  | nil => rfl
  | cons a l ih => simp [Op.bytesLess, ih]

def knownB (k n : Int) (s : ByteArray) : Bool := k != 0 && valOkB k n s
def yes (b : Bool) : Int := if b = true then 1 else 0
def eq3 (k n : Int) (s : ByteArray) (k' n' : Int) (s' : ByteArray) : Int := if (knownB k n s && knownB k' n' s') = true then yes (sameV k n s k' n' s') else 2
def less3 (k n : Int) (s : ByteArray) (k' n' : Int) (s' : ByteArray) : Int := if (knownB k n s && knownB k' n' s') = true then yes (decide (ordV k n s k' n' s' < 0)) else 2

theorem ordV_zero (k n : Int) (s : ByteArray) (k' n' : Int) (s' : ByteArray) : (ordV k n s k' n' s' == 0) = sameV k n s k' n' s' := by
  unfold ordV
  cases hs : sameV k n s k' n' s'
  · cases hl : lessV k n s k' n' s' <;> simp
  · have : lessV k n s k' n' s' = false := by
      simp [sameV] at hs
      obtain ⟨rfl, rfl, h⟩ := hs
      simp [lessV, h, bytesLess_irrefl]
    simp [this]

theorem implTruthIf (b : Bool) (w : World) : Calls Tryz.prog 98 #[.bool b] w fun e w' => e = .returned (.int .i64 (yes b)) ∧ w = w' := by
  cases b
  · go_enter Tryz.func98, Tryz.ntmps98
    go_wp2
    go_ret
    exact ⟨rfl, rfl⟩
  · go_enter Tryz.func98, Tryz.ntmps98
    go_wp2
    go_ret
    exact ⟨rfl, rfl⟩

theorem implKnown (k n : Int) (s : ByteArray) (w : World) :
    Calls Tryz.prog 115 #[.agg #[.int .i64 k, .int .i64 n, .string s]] w fun e w' => e = .returned (.bool (knownB k n s)) ∧ Below w.heap.size w w' := by
  have HB0 := Lib.hid ((Below.refl w.heap.size w).alloc (Nat.le_refl _) (.cells #[.int .i64 k, .int .i64 n, .string s] 57))
  by_cases h : k = 0
  · subst h
    go_enter Tryz.func115, Tryz.ntmps115
    go_wp2
    go_ret
    exact ⟨rfl, HB0.out⟩
  · have h' : (k != 0) = true := by simpa using h
    go_enter Tryz.func115, Tryz.ntmps115
    go_wp2_with fail
    refine (implValOk k n s _).mono ?_
    rintro e w1 ⟨rfl, hb1⟩
    go_wp2
    go_ret
    exact ⟨retB (by simp [knownB, h]), HB0.out.trans (hb1.mono HB0.out.size)⟩

set_option maxHeartbeats 1000000 in
theorem implEqual3 (k n : Int) (s : ByteArray) (k' n' : Int) (s' : ByteArray) (w : World) :
    Calls Tryz.prog 93 #[.agg #[.int .i64 k, .int .i64 n, .string s], .agg #[.int .i64 k', .int .i64 n', .string s']] w fun e w' => e = .returned (.int .i64 (eq3 k n s k' n' s')) ∧ Below w.heap.size w w' := by
  have Q0 := Lib.hid (Cells3.two w k n s k' n' s' 57)
  have HB0 := Lib.hid (chain2 w (.cells #[.int .i64 k, .int .i64 n, .string s] 57) (.cells #[.int .i64 k', .int .i64 n', .string s'] 57))
  cases ha : knownB k n s
  · have Ha := Lib.hid ha
    go_enter Tryz.func93, Tryz.ntmps93
    go_wp2_with fail
    refine (implKnown k n s _).mono ?_
    rintro e w1 ⟨rfl, hb1⟩
    go_wp2
    go_ret
    exact ⟨retI (by simp [eq3, Ha.out]), (HB0.out.trans (hb1.mono HB0.out.size))⟩
  cases hc : knownB k' n' s'
  · have Hc := Lib.hid hc
    go_enter Tryz.func93, Tryz.ntmps93
    go_wp2_with fail
    refine (implKnown k n s _).mono ?_
    rintro e w1 ⟨rfl, hb1⟩
    obtain ⟨⟨c0, c1, c2⟩, ⟨d0, d1, d2⟩⟩ := two_below Q0.out hb1
    go_wp2_with fail
    refine (implKnown k' n' s' _).mono ?_
    rintro e w2 ⟨rfl, hb2⟩
    go_wp2
    go_ret
    exact ⟨retI (by simp [eq3, Hc.out]), (HB0.out.trans (hb1.mono HB0.out.size)).trans (hb2.mono (HB0.out.trans (hb1.mono HB0.out.size)).size)⟩
  · have Ha := Lib.hid ha
    have Hc := Lib.hid hc
    go_enter Tryz.func93, Tryz.ntmps93
    go_wp2_with fail
    refine (implKnown k n s _).mono ?_
    rintro e w1 ⟨rfl, hb1⟩
    obtain ⟨⟨c0, c1, c2⟩, ⟨d0, d1, d2⟩⟩ := two_below Q0.out hb1
    go_wp2_with fail
    refine (implKnown k' n' s' _).mono ?_
    rintro e w2 ⟨rfl, hb2⟩
    have H2 := Lib.hid ((HB0.out.trans (hb1.mono HB0.out.size)).trans (hb2.mono (HB0.out.trans (hb1.mono HB0.out.size)).size))
    obtain ⟨⟨g0, g1, g2⟩, ⟨e0, e1, e2⟩⟩ := two_below (s := s) (s' := s') ⟨⟨c0, c1, c2⟩, ⟨d0, d1, d2⟩⟩ hb2
    clear c0 c1 c2 d0 d1 d2 hb1 hb2
    go_wp2_with fail
    refine (implOrder k n s k' n' s' _).mono ?_
    rintro e w3 ⟨rfl, hb3⟩
    go_wp2_with fail
    refine (implTruthIf _ _).mono ?_
    rintro e w4 ⟨rfl, rfl⟩
    go_wp2
    go_ret
    have o1 : valOkB k n s = true := by have := Ha.out; simp [knownB] at this; exact this.2
    have o2 : valOkB k' n' s' = true := by have := Hc.out; simp [knownB] at this; exact this.2
    exact ⟨retI (by simp only [eq3, Ha.out, Hc.out, Bool.and_self, if_true, ordOk, o1, o2, ordV_zero]), H2.out.trans (hb3.mono H2.out.size)⟩

set_option maxHeartbeats 1000000 in
theorem implLess3 (k n : Int) (s : ByteArray) (k' n' : Int) (s' : ByteArray) (w : World) :
    Calls Tryz.prog 94 #[.agg #[.int .i64 k, .int .i64 n, .string s], .agg #[.int .i64 k', .int .i64 n', .string s']] w fun e w' => e = .returned (.int .i64 (less3 k n s k' n' s')) ∧ Below w.heap.size w w' := by
  have Q0 := Lib.hid (Cells3.two w k n s k' n' s' 57)
  have HB0 := Lib.hid (chain2 w (.cells #[.int .i64 k, .int .i64 n, .string s] 57) (.cells #[.int .i64 k', .int .i64 n', .string s'] 57))
  cases ha : knownB k n s
  · have Ha := Lib.hid ha
    go_enter Tryz.func94, Tryz.ntmps94
    go_wp2_with fail
    refine (implKnown k n s _).mono ?_
    rintro e w1 ⟨rfl, hb1⟩
    go_wp2
    go_ret
    exact ⟨retI (by simp [less3, Ha.out]), (HB0.out.trans (hb1.mono HB0.out.size))⟩
  cases hc : knownB k' n' s'
  · have Hc := Lib.hid hc
    go_enter Tryz.func94, Tryz.ntmps94
    go_wp2_with fail
    refine (implKnown k n s _).mono ?_
    rintro e w1 ⟨rfl, hb1⟩
    obtain ⟨⟨c0, c1, c2⟩, ⟨d0, d1, d2⟩⟩ := two_below Q0.out hb1
    go_wp2_with fail
    refine (implKnown k' n' s' _).mono ?_
    rintro e w2 ⟨rfl, hb2⟩
    go_wp2
    go_ret
    exact ⟨retI (by simp [less3, Hc.out]), (HB0.out.trans (hb1.mono HB0.out.size)).trans (hb2.mono (HB0.out.trans (hb1.mono HB0.out.size)).size)⟩
  · have Ha := Lib.hid ha
    have Hc := Lib.hid hc
    go_enter Tryz.func94, Tryz.ntmps94
    go_wp2_with fail
    refine (implKnown k n s _).mono ?_
    rintro e w1 ⟨rfl, hb1⟩
    obtain ⟨⟨c0, c1, c2⟩, ⟨d0, d1, d2⟩⟩ := two_below Q0.out hb1
    go_wp2_with fail
    refine (implKnown k' n' s' _).mono ?_
    rintro e w2 ⟨rfl, hb2⟩
    have H2 := Lib.hid ((HB0.out.trans (hb1.mono HB0.out.size)).trans (hb2.mono (HB0.out.trans (hb1.mono HB0.out.size)).size))
    obtain ⟨⟨g0, g1, g2⟩, ⟨e0, e1, e2⟩⟩ := two_below (s := s) (s' := s') ⟨⟨c0, c1, c2⟩, ⟨d0, d1, d2⟩⟩ hb2
    clear c0 c1 c2 d0 d1 d2 hb1 hb2
    go_wp2_with fail
    refine (implOrder k n s k' n' s' _).mono ?_
    rintro e w3 ⟨rfl, hb3⟩
    go_wp2_with fail
    refine (implTruthIf _ _).mono ?_
    rintro e w4 ⟨rfl, rfl⟩
    go_wp2
    go_ret
    have o1 : valOkB k n s = true := by have := Ha.out; simp [knownB] at this; exact this.2
    have o2 : valOkB k' n' s' = true := by have := Hc.out; simp [knownB] at this; exact this.2
    exact ⟨retI (by simp only [less3, Ha.out, Hc.out, Bool.and_self, if_true, ordOk, o1, o2]), H2.out.trans (hb3.mono H2.out.size)⟩
end Go.Proofs.YtakhcgkhjmfndaaGreat
