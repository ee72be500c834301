/-
  Contracts on the value and the truth of an expression, in the model.
-/
import Derived.Test.YtkoihpejkcnokaaSpecEvalLoop
import Derived.Test.YtkoihpejkcnokaaLawVals2
namespace Go.Proofs.Ytkoihpejkcnokaa
open Go.RowKit

theorem evalB_row {ts : List Tk} {row : List Vl} (h : rowB row = false) : evalB ts row = none := by simp [evalB, h]
theorem evalB_expr {ts : List Tk} {row : List Vl} (h : exprB ts row.length = false) : evalB ts row = none := by simp [evalB, h]
theorem exprB_l2 {ts : List Tk} {n : Nat} (hn : n ≤ 16) : exprB ts n = l2B ts n := by
  have h0 : (0 : Int) ≤ n := by omega
  have h1 : (n : Int) ≤ 16 := by omega
  simp only [exprB, l2B, h0, h1, decide_true, Bool.true_and]
  exact Bool.and_comm _ _
theorem rowB_le {row : List Vl} (h : rowB row = true) : row.length ≤ 16 := by simp [rowB] at h; exact h.1

set_option maxRecDepth 100000 in
set_option maxHeartbeats 1000000 in
theorem specEval (A R : Option Addr) (n m cap capR : Nat) (ts : List Tk) (row : List Vl) (w : World) (h : Toks w A n ts) (hr : Vals w R m row) (hn : n ≤ maxLen) (hm : m ≤ maxLen) :
    Calls Try.prog 13 #[.slice A n cap, .slice R m capR] w (EvalPost (evalB ts row) w) := by
  have hml := hr.len
  have bz := (Below.refl w.heap.size w).alloc (Nat.le_refl _) (.cells #[.int .i64 0, .int .i64 0, .string ⟨#[]⟩] 30)
  have rz := Row.new w 30 #[.int .i64 0, .int .i64 0, .string ⟨#[]⟩]
  cases hrow : rowB row
  · have HR := Lib.hid hrow
    have HN := Lib.hid (evalB_row (ts := ts) hrow)
    clear hrow
    go_enter Try.func13, Try.ntmps13
    go_wp2_with fail
    refine (specVals R m capR row _ (hr.below bz) hm).mono ?_
    rintro e w1 ⟨rfl, hb1⟩
    rw [HR.out]
    have hbb := bz.trans (hb1.mono bz.size)
    have r1 := rz.below hb1
    have r2 := ((r1.set 0 (.int .i64 0)).set 1 (.int .i64 0)).set 2 (.string ⟨#[]⟩)
    obtain ⟨⟨c0, c1, c2⟩, ⟨f0, f1, f2⟩⟩ := r1.three
    obtain ⟨⟨z0, z1, z2⟩, -⟩ := r2.three
    go_wp2_with fail
    refine bodyPost_ret (v := .tuple #[.agg #[.int .i64 0, .int .i64 0, .string ⟨#[]⟩], .bool false]) (by simp [results, Try.results13, go_sem, z0, z1, z2]) rfl ⟨by rw [HN.out]; rfl, ?_⟩
    repeat (first | with_reducible exact hbb | with_reducible refine Below.drew ?_ | with_reducible refine Below.setCell ?_ (by simp; omega) _ | with_reducible refine Below.setCell ?_ (by simp) _)
  have h16 := rowB_le hrow
  have HR := Lib.hid hrow
  have hml' : (m : Int) = row.length := by omega
  obtain rfl : m = row.length := by omega
  have i0 : (0 : Int) ≤ (row.length : Int) := by omega
  have i16 : (row.length : Int) ≤ 16 := by omega
  clear hrow hml hml'
  cases hx : l2B ts row.length
  · have HX := Lib.hid hx
    have HN := Lib.hid (evalB_expr (ts := ts) (row := row) (by rw [exprB_l2 h16]; exact hx))
    clear hx
    go_enter Try.func13, Try.ntmps13
    go_wp2_with fail
    refine (specVals R row.length capR row _ (hr.below bz) hm).mono ?_
    rintro e w1 ⟨rfl, hb1⟩
    rw [HR.out]
    have hbb := bz.trans (hb1.mono bz.size)
    have r1 := rz.below hb1
    go_wp2_with fail
    refine (specL2Expr A n cap ts row.length _ (h.below hbb) hn i0 i16).mono ?_
    rintro e w2 ⟨rfl, hb2⟩
    rw [HX.out]
    have hbc := hbb.trans (hb2.mono hbb.size)
    have r2 := r1.below hb2
    have r3 := ((r2.set 0 (.int .i64 0)).set 1 (.int .i64 0)).set 2 (.string ⟨#[]⟩)
    obtain ⟨⟨c0, c1, c2⟩, ⟨f0, f1, f2⟩⟩ := r2.three
    obtain ⟨⟨z0, z1, z2⟩, -⟩ := r3.three
    go_wp2_with fail
    refine bodyPost_ret (v := .tuple #[.agg #[.int .i64 0, .int .i64 0, .string ⟨#[]⟩], .bool false]) (by simp [results, Try.results13, go_sem, z0, z1, z2]) rfl ⟨by rw [HN.out]; rfl, ?_⟩
    repeat (first | with_reducible exact hbc | with_reducible refine Below.drew ?_ | with_reducible refine Below.setCell ?_ (by simp; omega) _ | with_reducible refine Below.setCell ?_ (by simp) _)
  · have HX := Lib.hid hx
    have HE := Lib.hid (show exprB ts row.length = true by rw [exprB_l2 h16]; exact hx)
    clear hx
    go_enter Try.func13, Try.ntmps13
    go_wp2_with fail
    refine (specVals R row.length capR row _ (hr.below bz) hm).mono ?_
    rintro e w1 ⟨rfl, hb1⟩
    rw [HR.out]
    have hbb := bz.trans (hb1.mono bz.size)
    have r1 := rz.below hb1
    go_wp2_with fail
    refine (specL2Expr A n cap ts row.length _ (h.below hbb) hn i0 i16).mono ?_
    rintro e w2 ⟨rfl, hb2⟩
    rw [HX.out]
    have hbc := hbb.trans (hb2.mono hbb.size)
    have r2 := r1.below hb2
    go_wp2_with fail
    refine (specL2Eval A R n row.length cap capR ts row _ (h.below hbc) (hr.below hbc) hn hm HR.out HE.out).mono ?_
    rintro e w3 ⟨rfl, hb3⟩
    have hbd := hbc.trans (hb3.mono hbc.size)
    generalize ho : (evalB ts row).isSome = o at *
    generalize hv : (evalB ts row).getD Vl.zero = v at *
    have HO := Lib.hid ho
    have HV := Lib.hid hv
    clear ho hv
    have r3 := r2.below hb3
    have r4 := ((r3.set 0 (.int .i64 v.k)).set 1 (.int .i64 v.n)).set 2 (.string v.s)
    obtain ⟨⟨c0, c1, c2⟩, ⟨f0, f1, f2⟩⟩ := r3.three
    obtain ⟨⟨z0, z1, z2⟩, -⟩ := r4.three
    go_wp2_with fail
    refine bodyPost_ret (v := .tuple #[.agg #[.int .i64 v.k, .int .i64 v.n, .string v.s], .bool o]) (by simp [results, Try.results13, go_sem, z0, z1, z2]) rfl ⟨by rw [HV.out, HO.out], ?_⟩
    repeat (first | with_reducible exact hbd | with_reducible refine Below.drew ?_ | with_reducible refine Below.setCell ?_ (by simp; omega) _ | with_reducible refine Below.setCell ?_ (by simp) _)

set_option maxRecDepth 100000 in
set_option maxHeartbeats 1000000 in
theorem specL2Truth (A R : Option Addr) (n m cap capR : Nat) (ts : List Tk) (row : List Vl) (w : World) (h : Toks w A n ts) (hr : Vals w R m row) (hn : n ≤ maxLen) (hm : m ≤ maxLen) (hrow : rowB row = true) (hex : exprB ts row.length = true) :
    Calls Try.prog 25 #[.slice A n cap, .slice R m capR] w fun e w' => e = .returned (.int .i64 (truthB ts row)) ∧ Below w.heap.size w w' := by
  have HR := Lib.hid hrow
  have HX := Lib.hid hex
  clear hrow hex
  cases hv : evalB ts row with
  | none =>
    have HE := Lib.hid hv
    have HT := Lib.hid (show truthB ts row = -1 by simp [truthB, hv])
    have HZ := Lib.hid (show truS Vl.zero = true by simp [truS, truOf, Vl.zero])
    clear hv
    go_enter Try.func25, Try.ntmps25
    go_wp2_with fail
    refine (specL2Eval A R n m cap capR ts row _ h hr hn hm HR.out HX.out).mono ?_
    rintro e w1 ⟨rfl, hb1⟩
    rw [HE.out]
    simp only [Option.getD_none, Option.isSome_none]
    have r1 := Row.new w1 30 #[.int .i64 Vl.zero.k, .int .i64 Vl.zero.n, .string Vl.zero.s]
    have hbx := hb1.alloc hb1.size (.cells #[.int .i64 Vl.zero.k, .int .i64 Vl.zero.n, .string Vl.zero.s] 30)
    go_wp2_with fail
    generalize Vl.zero = v at *
    refine (specOf v _).mono ?_
    rintro e w2 ⟨rfl, hb2⟩
    go_wp2
    go_ret
    exact ⟨retI (by rw [HT.out]), hbx.trans (hb2.mono hbx.size)⟩
  | some v =>
    have HE := Lib.hid hv
    have HT := Lib.hid (show truthB ts row = truOf v by simp [truthB, hv])
    clear hv
    cases hs : truS v
    · have HS := Lib.hid hs
      have HT2 := Lib.hid (show truOf v = -1 by simpa [truS] using hs)
      clear hs
      go_enter Try.func25, Try.ntmps25
      go_wp2_with fail
      refine (specL2Eval A R n m cap capR ts row _ h hr hn hm HR.out HX.out).mono ?_
      rintro e w1 ⟨rfl, hb1⟩
      rw [HE.out]
      simp only [Option.getD_some, Option.isSome_some]
      have hbx := hb1.alloc hb1.size (.cells #[.int .i64 v.k, .int .i64 v.n, .string v.s] 30)
      go_wp2_with fail
      refine (specOf v _).mono ?_
      rintro e w2 ⟨rfl, hb2⟩
      rw [HS.out]
      go_wp2
      go_ret
      exact ⟨retI (by rw [HT.out, HT2.out]), hbx.trans (hb2.mono hbx.size)⟩
    · have HS := Lib.hid hs
      have HT2 := Lib.hid (show truN v = truOf v by have h1 : ¬ truOf v = -1 := by simpa [truS] using hs
                                                    simp [truN, h1])
      clear hs
      go_enter Try.func25, Try.ntmps25
      go_wp2_with fail
      refine (specL2Eval A R n m cap capR ts row _ h hr hn hm HR.out HX.out).mono ?_
      rintro e w1 ⟨rfl, hb1⟩
      rw [HE.out]
      simp only [Option.getD_some, Option.isSome_some]
      have hbx := hb1.alloc hb1.size (.cells #[.int .i64 v.k, .int .i64 v.n, .string v.s] 30)
      go_wp2_with fail
      refine (specOf v _).mono ?_
      rintro e w2 ⟨rfl, hb2⟩
      rw [HS.out]
      go_wp2
      go_ret
      exact ⟨retI (by rw [HT.out, HT2.out]), hbx.trans (hb2.mono hbx.size)⟩

set_option maxRecDepth 100000 in
set_option maxHeartbeats 1000000 in
theorem specTruth (A R : Option Addr) (n m cap capR : Nat) (ts : List Tk) (row : List Vl) (w : World) (h : Toks w A n ts) (hr : Vals w R m row) (hn : n ≤ maxLen) (hm : m ≤ maxLen) :
    Calls Try.prog 9 #[.slice A n cap, .slice R m capR] w fun e w' => e = .returned (.int .i64 (truthB ts row)) ∧ Below w.heap.size w w' := by
  have hml := hr.len
  cases hrow : rowB row
  · have HR := Lib.hid hrow
    have HN := Lib.hid (show truthB ts row = -1 by simp [truthB, evalB_row (ts := ts) hrow])
    clear hrow
    go_enter Try.func9, Try.ntmps9
    go_wp2_with fail
    refine (specVals R m capR row _ hr hm).mono ?_
    rintro e w1 ⟨rfl, hb1⟩
    rw [HR.out]
    go_wp2
    go_ret
    exact ⟨retI (by rw [HN.out]), hb1⟩
  have h16 := rowB_le hrow
  have HR := Lib.hid hrow
  obtain rfl : m = row.length := by omega
  have i0 : (0 : Int) ≤ (row.length : Int) := by omega
  have i16 : (row.length : Int) ≤ 16 := by omega
  clear hrow hml
  cases hx : l2B ts row.length
  · have HX := Lib.hid hx
    have HN := Lib.hid (show truthB ts row = -1 by simp [truthB, evalB_expr (ts := ts) (row := row) (by rw [exprB_l2 h16]; exact hx)])
    clear hx
    go_enter Try.func9, Try.ntmps9
    go_wp2_with fail
    refine (specVals R row.length capR row _ hr hm).mono ?_
    rintro e w1 ⟨rfl, hb1⟩
    rw [HR.out]
    go_wp2_with fail
    refine (specL2Expr A n cap ts row.length _ (h.below hb1) hn i0 i16).mono ?_
    rintro e w2 ⟨rfl, hb2⟩
    rw [HX.out]
    go_wp2
    go_ret
    exact ⟨retI (by rw [HN.out]), hb1.trans (hb2.mono hb1.size)⟩
  · have HX := Lib.hid hx
    have HE := Lib.hid (show exprB ts row.length = true by rw [exprB_l2 h16]; exact hx)
    clear hx
    go_enter Try.func9, Try.ntmps9
    go_wp2_with fail
    refine (specVals R row.length capR row _ hr hm).mono ?_
    rintro e w1 ⟨rfl, hb1⟩
    rw [HR.out]
    go_wp2_with fail
    refine (specL2Expr A n cap ts row.length _ (h.below hb1) hn i0 i16).mono ?_
    rintro e w2 ⟨rfl, hb2⟩
    rw [HX.out]
    have hbc := hb1.trans (hb2.mono hb1.size)
    go_wp2_with fail
    refine (specL2Truth A R n row.length cap capR ts row _ (h.below hbc) (hr.below hbc) hn hm HR.out HE.out).mono ?_
    rintro e w3 ⟨rfl, hb3⟩
    go_wp2
    go_ret
    exact ⟨rfl, hbc.trans (hb3.mono hbc.size)⟩

end Go.Proofs.Ytkoihpejkcnokaa
