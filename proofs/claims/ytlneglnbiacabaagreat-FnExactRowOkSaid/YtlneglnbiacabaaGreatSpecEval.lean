/-
  Contracts on the value and the truth of an expression, in the model.
-/
import Derived.Test.YtlneglnbiacabaaGreatSpecEvalLoop
import Derived.Test.YtlneglnbiacabaaGreatLawVals2
namespace Go.Proofs.YtlneglnbiacabaaGreat
open Go.RowKit

theorem evalB_row {ts : List Tk} {row : List Vl} (h : rowB row = false) : evalB ts row = none := by simp [evalB, h]
theorem evalB_expr {ts : List Tk} {row : List Vl} (h : exprB ts row.length = false) : evalB ts row = none := by simp [evalB, h]
theorem exprB_l2 {ts : List Tk} {n : Nat} (hn : n ≤ 16) : exprB ts n = l2B ts n := by
  have h0 : (0 : Int) ≤ n := by omega
  have h1 : (n : Int) ≤ 16 := by omega
  simp only [exprB, l2B, h0, h1, decide_true, Bool.true_and]
  exact Bool.and_comm _ _
theorem rowB_le {row : List Vl} (h : rowB row = true) : row.length ≤ 16 := by simp [rowB] at h; exact h.1

set_option maxRecDepth 100000 in
set_option maxHeartbeats 1000000 in
theorem specL2Truth (A R : Option Addr) (n m cap capR : Nat) (ts : List Tk) (row : List Vl) (w : World) (h : Toks w A n ts) (hr : Vals w R m row) (hn : n ≤ maxLen) (hm : m ≤ maxLen) (hrow : rowB row = true) (hex : exprB ts row.length = true) :
    Calls Tryz.prog 123 #[.slice A n cap, .slice R m capR] w fun e w' => e = .returned (.int .i64 (truthB ts row)) ∧ Below w.heap.size w w' := by
  have HR := Lib.hid hrow
  have HX := Lib.hid hex
  clear hrow hex
  cases hv : evalB ts row with
  | none =>
    have HE := Lib.hid hv
    have HT := Lib.hid (show truthB ts row = -1 by simp [truthB, hv])
    have HZ := Lib.hid (show truS Vl.zero = true by simp [truS, truOf, Vl.zero])
    clear hv
    go_enter Tryz.func123, Tryz.ntmps123
    go_wp2_with fail
    refine (specL2Eval A R n m cap capR ts row _ h hr hn hm HR.out HX.out).mono ?_
    rintro e w1 ⟨rfl, hb1⟩
    rw [HE.out]
    simp only [Option.getD_none, Option.isSome_none]
    have r1 := Row.new w1 81 #[.int .i64 Vl.zero.k, .int .i64 Vl.zero.n, .string Vl.zero.s]
    have hbx := hb1.alloc hb1.size (.cells #[.int .i64 Vl.zero.k, .int .i64 Vl.zero.n, .string Vl.zero.s] 81)
    go_wp2_with fail
    generalize Vl.zero = v at *
    refine (specOf v _).mono ?_
    rintro e w2 ⟨rfl, hb2⟩
    go_wp2
    go_ret
    exact ⟨retI (by rw [HT.out]), hbx.trans (hb2.mono hbx.size)⟩
  | some v =>
    have HE := Lib.hid hv
    have HT := Lib.hid (show truthB ts row = truOf v by simp [truthB, hv])
    clear hv
    cases hs : truS v
    · have HS := Lib.hid hs
      have HT2 := Lib.hid (show truOf v = -1 by simpa [truS] using hs)
      clear hs
      go_enter Tryz.func123, Tryz.ntmps123
      go_wp2_with fail
      refine (specL2Eval A R n m cap capR ts row _ h hr hn hm HR.out HX.out).mono ?_
      rintro e w1 ⟨rfl, hb1⟩
      rw [HE.out]
      simp only [Option.getD_some, Option.isSome_some]
      have hbx := hb1.alloc hb1.size (.cells #[.int .i64 v.k, .int .i64 v.n, .string v.s] 81)
      go_wp2_with fail
      refine (specOf v _).mono ?_
      rintro e w2 ⟨rfl, hb2⟩
      rw [HS.out]
      go_wp2
      go_ret
      exact ⟨retI (by rw [HT.out, HT2.out]), hbx.trans (hb2.mono hbx.size)⟩
    · have HS := Lib.hid hs
      have HT2 := Lib.hid (show truN v = truOf v by have h1 : ¬ truOf v = -1 := by simpa [truS] using hs
                                                    simp [truN, h1])
      clear hs
      go_enter Tryz.func123, Tryz.ntmps123
      go_wp2_with fail
      refine (specL2Eval A R n m cap capR ts row _ h hr hn hm HR.out HX.out).mono ?_
      rintro e w1 ⟨rfl, hb1⟩
      rw [HE.out]
      simp only [Option.getD_some, Option.isSome_some]
      have hbx := hb1.alloc hb1.size (.cells #[.int .i64 v.k, .int .i64 v.n, .string v.s] 81)
      go_wp2_with fail
      refine (specOf v _).mono ?_
      rintro e w2 ⟨rfl, hb2⟩
      rw [HS.out]
      go_wp2
      go_ret
      exact ⟨retI (by rw [HT.out, HT2.out]), hbx.trans (hb2.mono hbx.size)⟩


end Go.Proofs.YtlneglnbiacabaaGreat
