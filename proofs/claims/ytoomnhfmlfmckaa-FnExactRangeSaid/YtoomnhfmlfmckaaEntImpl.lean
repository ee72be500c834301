/-
  Entries of an index: their order, which are right, in the program.
-/
import Derived.Test.YtoomnhfmlfmckaaEntMath
import Derived.Test.YtoomnhfmlfmckaaEval2
namespace Go.Proofs.Ytoomnhfmlfmckaa
open Go.RowKit Go.Maps
set_option linter.unusedVariables false
set_option linter.unusedSimpArgs false

set_option maxHeartbeats 1000000 in
theorem implOrderOf (x y : Vl) (w : World) :
    Calls Try.prog 65 #[.agg #[.int .i64 x.k, .int .i64 x.n, .string x.s], .agg #[.int .i64 y.k, .int .i64 y.n, .string y.s]] w fun e w' => e = .returned (.int .i64 (ordX x y)) ∧ Below w.heap.size w w' := by
  have hb0 := chain2 w (.cells #[.int .i64 x.k, .int .i64 x.n, .string x.s] 31) (.cells #[.int .i64 y.k, .int .i64 y.n, .string y.s] 31)
  have HB := Lib.hid hb0
  clear hb0
  go_enter Try.func65, Try.ntmps65
  go_wp2_with fail
  refine (implOrder x.k x.n x.s y.k y.n y.s _).mono ?_
  rintro e w1 ⟨rfl, hb1⟩
  go_wp2_with fail
  go_ret
  exact ⟨rfl, HB.out.trans (hb1.mono HB.out.size)⟩

set_option maxRecDepth 100000 in
set_option maxHeartbeats 2000000 in
theorem implCmpVals (A B : Option Addr) (n m c d : Nat) (a b : List Vl) (ok ok' : Nat → Prop) (w : World) (ha : Sl VlR 3 ok w A n a) (hb : Sl VlR 3 ok' w B m b) (hn : n ≤ 1048576) (hm : m ≤ 1048576) :
    Calls Try.prog 64 #[.slice A n c, .slice B m d, .func (.func 65) #[] #[]] w fun e w' => e = .returned (.int .i64 (ordL a b)) ∧ Below w.heap.size w w' := by
  obtain rfl : a.length = n := ha.1
  obtain rfl : b.length = m := hb.1
  go_enter Try.func64, Try.ntmps64
  go_wp2_with fail
  go_loopw [13] (fun i wr => ∃ k : Nat, k ≤ a.length ∧ i = .int .i64 k ∧ Hid (k ≤ b.length) ∧ Hid (ordL (a.drop k) (b.drop k) = ordL a b) ∧ Below w.heap.size w wr) (fun i _ => a.length - (intOf i).toNat)
  case atStart => exact ⟨0, by omega, rfl, Lib.hid (by omega), Lib.hid (by simp), Below.refl _ _⟩
  case round =>
    obtain ⟨k, hk, rfl, hkb, hord, hbw⟩ := hrel
    by_cases hlt : k < a.length
    · obtain ⟨b1, o1, -, rfl, q0, q1, q2⟩ := VlR.at_ (ha.below VlR.stays hbw) hlt
      have i0 : (0 : Int) ≤ k := by omega
      have i1 : (k : Int) < a.length := by omega
      have hx1 := hbw.alloc hbw.size (.cells #[.int .i64 a[k].k, .int .i64 a[k].n, .string a[k].s] 31)
      by_cases hl2 : k < b.length
      case neg =>
        have z : decide ((b.length : Int) ≤ k) = true := decide_eq_true (by omega)
        have z' : decide (b.length ≤ k) = true := decide_eq_true (by omega)
        have HR := Lib.hid (show ordL a b = 1 by rw [← hord.out]; exact ordL_end hlt (by omega))
        clear hord
        go_wp2_with fail
        go_ret
        exact ⟨retI HR.out.symm, hx1⟩
      have z : decide ((b.length : Int) ≤ k) = false := decide_eq_false (by omega)
      have z' : decide (b.length ≤ k) = false := decide_eq_false (by omega)
      obtain ⟨b2, o2, -, rfl, r0, r1, r2⟩ := VlR.at_ (hb.below VlR.stays hx1) hl2
      have i2 : (k : Int) < b.length := by omega
      have HB2 := Lib.hid (hx1.alloc hx1.size (.cells #[.int .i64 b[k].k, .int .i64 b[k].n, .string b[k].s] 31))
      have HO := Lib.hid (hord.out.symm.trans (ordL_at hlt hl2))
      clear hord hx1
      go_wp2_with fail
      refine (implOrderOf a[k] b[k] _).mono ?_
      rintro e w3 ⟨rfl, hb3⟩
      have hz := HB2.out.trans (hb3.mono HB2.out.size)
      by_cases h0 : ordX a[k] b[k] = 0
      · have z0 : (ordX a[k] b[k] != 0) = false := by simpa using h0
        have HA := Lib.hid (show ordL (a.drop (k + 1)) (b.drop (k + 1)) = ordL a b by rw [HO.out, if_pos h0])
        clear h0
        go_wp2_with fail
        go_roundw
        case rel => exact ⟨k + 1, by omega, by go_num, Lib.hid (by omega), HA, hz⟩
        case measure => simp [intOf]; omega
      · have z0 : (ordX a[k] b[k] != 0) = true := by simpa using h0
        have HA := Lib.hid (show ordL a b = ordX a[k] b[k] by rw [HO.out, if_neg h0])
        clear h0
        go_wp2_with fail
        go_ret
        exact ⟨retI HA.out.symm, hz⟩
    · obtain rfl : k = a.length := by omega
      by_cases hl2 : a.length < b.length
      · have z : decide (a.length < b.length) = true := decide_eq_true hl2
        have HR := Lib.hid (show ordL a b = -1 by rw [← hord.out]; exact ordL_off (Nat.le_refl _) hl2)
        clear hord
        go_wp2_with fail
        go_ret
        exact ⟨retI HR.out.symm, hbw⟩
      · have z : decide (a.length < b.length) = false := decide_eq_false hl2
        have HR := Lib.hid (show ordL a b = 0 by rw [← hord.out]; exact ordL_both (Nat.le_refl _) (by omega))
        clear hord
        go_wp2_with fail
        go_ret
        exact ⟨retI HR.out.symm, hbw⟩

def first2 (x y : Int) : Int := if x = 0 then y else x
set_option maxHeartbeats 1000000 in
theorem cmpOr2 (b : Nat) (x y : Int) (w : World) (h0 : w.cell? ⟨b, 0, none⟩ = some (.int .i64 x)) (h1 : w.cell? ⟨b, 1, none⟩ = some (.int .i64 y)) :
    Calls Try.prog 52 #[.slice (some ⟨b, 0, none⟩) 2 2] w fun e w' => e = .returned (.int .i64 (first2 x y)) ∧ w = w' := by
  by_cases hx : x = 0
  · subst hx
    by_cases hy : y = 0
    · subst hy
      rw [show first2 0 0 = 0 by decide]
      go_enter Try.func52, Try.ntmps52
      go_wp2
      refine wp_loop_rounds 4 ?_
      rw [rounds_succ]
      go_wp2
      rw [rounds_succ]
      go_wp2
      rw [rounds_succ]
      go_wp2
      go_ret
      exact ⟨rfl, rfl⟩
    · rw [show first2 0 y = y by simp [first2]]
      have hy' : (y != 0) = true := by simpa using hy
      go_enter Try.func52, Try.ntmps52
      go_wp2
      refine wp_loop_rounds 4 ?_
      rw [rounds_succ]
      go_wp2
      rw [rounds_succ]
      go_wp2
      go_ret
      exact ⟨rfl, rfl⟩
  · rw [show first2 x y = x by simp [first2, hx]]
    have hx' : (x != 0) = true := by simpa using hx
    go_enter Try.func52, Try.ntmps52
    go_wp2
    refine wp_loop_rounds 4 ?_
    rw [rounds_succ]
    go_wp2
    go_ret
    exact ⟨rfl, rfl⟩
end Go.Proofs.Ytoomnhfmlfmckaa
