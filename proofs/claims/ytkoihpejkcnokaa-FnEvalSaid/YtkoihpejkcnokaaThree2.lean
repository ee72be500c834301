/-
  Contracts on Equal3 and Less3 of the model.
-/
import Derived.Test.YtkoihpejkcnokaaThree
namespace Go.Proofs.Ytkoihpejkcnokaa
open Go.RowKit

set_option maxHeartbeats 1000000 in
theorem specLess3 (k n : Int) (s : ByteArray) (k' n' : Int) (s' : ByteArray) (w : World) :
    Calls Try.prog 74 #[.agg #[.int .i64 k, .int .i64 n, .string s], .agg #[.int .i64 k', .int .i64 n', .string s']] w fun e w' => e = .returned (.int .i64 (less3 k n s k' n' s')) ∧ Below w.heap.size w w' := by
  have Q0 := Lib.hid (Cells3.two w k n s k' n' s' 30)
  have HB0 := Lib.hid (chain2 w (.cells #[.int .i64 k, .int .i64 n, .string s] 30) (.cells #[.int .i64 k', .int .i64 n', .string s'] 30))
  cases ha : valOkB k n s
  · have Ha := Lib.hid ha
    go_enter Try.func74, Try.ntmps74
    go_wp2_with fail
    refine (specValOk k n s _).mono ?_
    rintro e w1 ⟨rfl, hb1⟩
    go_wp2
    go_ret
    exact ⟨retI (by simp [less3, knownB, Ha.out]), (HB0.out.trans (hb1.mono HB0.out.size))⟩
  cases hc : valOkB k' n' s'
  · have Hc := Lib.hid hc
    go_enter Try.func74, Try.ntmps74
    go_wp2_with fail
    refine (specValOk k n s _).mono ?_
    rintro e w1 ⟨rfl, hb1⟩
    obtain ⟨⟨c0, c1, c2⟩, ⟨d0, d1, d2⟩⟩ := two_below Q0.out hb1
    go_wp2_with fail
    refine (specValOk k' n' s' _).mono ?_
    rintro e w2 ⟨rfl, hb2⟩
    have H2 := Lib.hid ((HB0.out.trans (hb1.mono HB0.out.size)).trans (hb2.mono (HB0.out.trans (hb1.mono HB0.out.size)).size))
    obtain ⟨⟨g0, g1, g2⟩, ⟨e0, e1, e2⟩⟩ := two_below (s := s) (s' := s') ⟨⟨c0, c1, c2⟩, ⟨d0, d1, d2⟩⟩ hb2
    clear c0 c1 c2 d0 d1 d2 hb1 hb2
    go_wp2
    go_ret
    exact ⟨retI (by simp [less3, knownB, Hc.out]), H2.out⟩
  have Ha := Lib.hid ha
  have Hc := Lib.hid hc
  by_cases k0 : k = 0
  · have K0 := Lib.hid k0
    have k0' : (k == 0) = true := by simpa using k0
    clear k0
    go_enter Try.func74, Try.ntmps74
    go_wp2_with fail
    refine (specValOk k n s _).mono ?_
    rintro e w1 ⟨rfl, hb1⟩
    obtain ⟨⟨c0, c1, c2⟩, ⟨d0, d1, d2⟩⟩ := two_below Q0.out hb1
    go_wp2_with fail
    refine (specValOk k' n' s' _).mono ?_
    rintro e w2 ⟨rfl, hb2⟩
    have H2 := Lib.hid ((HB0.out.trans (hb1.mono HB0.out.size)).trans (hb2.mono (HB0.out.trans (hb1.mono HB0.out.size)).size))
    obtain ⟨⟨g0, g1, g2⟩, ⟨e0, e1, e2⟩⟩ := two_below (s := s) (s' := s') ⟨⟨c0, c1, c2⟩, ⟨d0, d1, d2⟩⟩ hb2
    clear c0 c1 c2 d0 d1 d2 hb1 hb2
    go_wp2
    go_ret
    exact ⟨retI (by simp [less3, knownB, K0.out]), H2.out⟩
  have k0' : (k == 0) = false := by simpa using k0
  by_cases k1 : k' = 0
  · have K1 := Lib.hid k1
    have k1' : (k' == 0) = true := by simpa using k1
    clear k1
    go_enter Try.func74, Try.ntmps74
    go_wp2_with fail
    refine (specValOk k n s _).mono ?_
    rintro e w1 ⟨rfl, hb1⟩
    obtain ⟨⟨c0, c1, c2⟩, ⟨d0, d1, d2⟩⟩ := two_below Q0.out hb1
    go_wp2_with fail
    refine (specValOk k' n' s' _).mono ?_
    rintro e w2 ⟨rfl, hb2⟩
    have H2 := Lib.hid ((HB0.out.trans (hb1.mono HB0.out.size)).trans (hb2.mono (HB0.out.trans (hb1.mono HB0.out.size)).size))
    obtain ⟨⟨g0, g1, g2⟩, ⟨e0, e1, e2⟩⟩ := two_below (s := s) (s' := s') ⟨⟨c0, c1, c2⟩, ⟨d0, d1, d2⟩⟩ hb2
    clear c0 c1 c2 d0 d1 d2 hb1 hb2
    go_wp2
    go_ret
    exact ⟨retI (by simp [less3, knownB, K1.out]), H2.out⟩
  · have k1' : (k' == 0) = false := by simpa using k1
    go_enter Try.func74, Try.ntmps74
    go_wp2_with fail
    refine (specValOk k n s _).mono ?_
    rintro e w1 ⟨rfl, hb1⟩
    obtain ⟨⟨c0, c1, c2⟩, ⟨d0, d1, d2⟩⟩ := two_below Q0.out hb1
    go_wp2_with fail
    refine (specValOk k' n' s' _).mono ?_
    rintro e w2 ⟨rfl, hb2⟩
    have H2 := Lib.hid ((HB0.out.trans (hb1.mono HB0.out.size)).trans (hb2.mono (HB0.out.trans (hb1.mono HB0.out.size)).size))
    obtain ⟨⟨g0, g1, g2⟩, ⟨e0, e1, e2⟩⟩ := two_below (s := s) (s' := s') ⟨⟨c0, c1, c2⟩, ⟨d0, d1, d2⟩⟩ hb2
    clear c0 c1 c2 d0 d1 d2 hb1 hb2
    go_wp2_with fail
    refine (specL1Order k n s k' n' s' _).mono ?_
    rintro e w3 ⟨rfl, hb3⟩
    go_wp2_with fail
    refine (specYes _ _).mono ?_
    rintro e w4 ⟨rfl, rfl⟩
    go_wp2
    go_ret
    exact ⟨retI (by simp [less3, knownB, Ha.out, Hc.out, k0, k1]), H2.out.trans (hb3.mono H2.out.size)⟩

set_option maxHeartbeats 1000000 in
theorem specEqual3 (k n : Int) (s : ByteArray) (k' n' : Int) (s' : ByteArray) (w : World) :
    Calls Try.prog 73 #[.agg #[.int .i64 k, .int .i64 n, .string s], .agg #[.int .i64 k', .int .i64 n', .string s']] w fun e w' => e = .returned (.int .i64 (eq3 k n s k' n' s')) ∧ Below w.heap.size w w' := by
  have Q0 := Lib.hid (Cells3.two w k n s k' n' s' 30)
  have HB0 := Lib.hid (chain2 w (.cells #[.int .i64 k, .int .i64 n, .string s] 30) (.cells #[.int .i64 k', .int .i64 n', .string s'] 30))
  cases ha : valOkB k n s
  · have Ha := Lib.hid ha
    go_enter Try.func73, Try.ntmps73
    go_wp2_with fail
    refine (specValOk k n s _).mono ?_
    rintro e w1 ⟨rfl, hb1⟩
    go_wp2
    go_ret
    exact ⟨retI (by simp [eq3, knownB, Ha.out]), (HB0.out.trans (hb1.mono HB0.out.size))⟩
  cases hc : valOkB k' n' s'
  · have Hc := Lib.hid hc
    go_enter Try.func73, Try.ntmps73
    go_wp2_with fail
    refine (specValOk k n s _).mono ?_
    rintro e w1 ⟨rfl, hb1⟩
    obtain ⟨⟨c0, c1, c2⟩, ⟨d0, d1, d2⟩⟩ := two_below Q0.out hb1
    go_wp2_with fail
    refine (specValOk k' n' s' _).mono ?_
    rintro e w2 ⟨rfl, hb2⟩
    have H2 := Lib.hid ((HB0.out.trans (hb1.mono HB0.out.size)).trans (hb2.mono (HB0.out.trans (hb1.mono HB0.out.size)).size))
    obtain ⟨⟨g0, g1, g2⟩, ⟨e0, e1, e2⟩⟩ := two_below (s := s) (s' := s') ⟨⟨c0, c1, c2⟩, ⟨d0, d1, d2⟩⟩ hb2
    clear c0 c1 c2 d0 d1 d2 hb1 hb2
    go_wp2
    go_ret
    exact ⟨retI (by simp [eq3, knownB, Hc.out]), H2.out⟩
  have Ha := Lib.hid ha
  have Hc := Lib.hid hc
  by_cases k0 : k = 0
  · have K0 := Lib.hid k0
    have k0' : (k == 0) = true := by simpa using k0
    clear k0
    go_enter Try.func73, Try.ntmps73
    go_wp2_with fail
    refine (specValOk k n s _).mono ?_
    rintro e w1 ⟨rfl, hb1⟩
    obtain ⟨⟨c0, c1, c2⟩, ⟨d0, d1, d2⟩⟩ := two_below Q0.out hb1
    go_wp2_with fail
    refine (specValOk k' n' s' _).mono ?_
    rintro e w2 ⟨rfl, hb2⟩
    have H2 := Lib.hid ((HB0.out.trans (hb1.mono HB0.out.size)).trans (hb2.mono (HB0.out.trans (hb1.mono HB0.out.size)).size))
    obtain ⟨⟨g0, g1, g2⟩, ⟨e0, e1, e2⟩⟩ := two_below (s := s) (s' := s') ⟨⟨c0, c1, c2⟩, ⟨d0, d1, d2⟩⟩ hb2
    clear c0 c1 c2 d0 d1 d2 hb1 hb2
    go_wp2
    go_ret
    exact ⟨retI (by simp [eq3, knownB, K0.out]), H2.out⟩
  have k0' : (k == 0) = false := by simpa using k0
  by_cases k1 : k' = 0
  · have K1 := Lib.hid k1
    have k1' : (k' == 0) = true := by simpa using k1
    clear k1
    go_enter Try.func73, Try.ntmps73
    go_wp2_with fail
    refine (specValOk k n s _).mono ?_
    rintro e w1 ⟨rfl, hb1⟩
    obtain ⟨⟨c0, c1, c2⟩, ⟨d0, d1, d2⟩⟩ := two_below Q0.out hb1
    go_wp2_with fail
    refine (specValOk k' n' s' _).mono ?_
    rintro e w2 ⟨rfl, hb2⟩
    have H2 := Lib.hid ((HB0.out.trans (hb1.mono HB0.out.size)).trans (hb2.mono (HB0.out.trans (hb1.mono HB0.out.size)).size))
    obtain ⟨⟨g0, g1, g2⟩, ⟨e0, e1, e2⟩⟩ := two_below (s := s) (s' := s') ⟨⟨c0, c1, c2⟩, ⟨d0, d1, d2⟩⟩ hb2
    clear c0 c1 c2 d0 d1 d2 hb1 hb2
    go_wp2
    go_ret
    exact ⟨retI (by simp [eq3, knownB, K1.out]), H2.out⟩
  · have k1' : (k' == 0) = false := by simpa using k1
    go_enter Try.func73, Try.ntmps73
    go_wp2_with fail
    refine (specValOk k n s _).mono ?_
    rintro e w1 ⟨rfl, hb1⟩
    obtain ⟨⟨c0, c1, c2⟩, ⟨d0, d1, d2⟩⟩ := two_below Q0.out hb1
    go_wp2_with fail
    refine (specValOk k' n' s' _).mono ?_
    rintro e w2 ⟨rfl, hb2⟩
    have H2 := Lib.hid ((HB0.out.trans (hb1.mono HB0.out.size)).trans (hb2.mono (HB0.out.trans (hb1.mono HB0.out.size)).size))
    obtain ⟨⟨g0, g1, g2⟩, ⟨e0, e1, e2⟩⟩ := two_below (s := s) (s' := s') ⟨⟨c0, c1, c2⟩, ⟨d0, d1, d2⟩⟩ hb2
    clear c0 c1 c2 d0 d1 d2 hb1 hb2
    have hq := fun w => eqlVal k n k' n' s s' w
    go_wp2_with fail
    refine (specYes _ _).mono ?_
    rintro e w4 ⟨rfl, rfl⟩
    go_wp2
    go_ret
    exact ⟨retI (by simp [eq3, knownB, sameV, Ha.out, Hc.out, k0, k1]), H2.out⟩
end Go.Proofs.Ytkoihpejkcnokaa
