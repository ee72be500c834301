/-
  Contracts on the truth of an expression, in the program.
-/
import Derived.Test.YtakhcgkhjmfndaaGreatEval3
namespace Go.Proofs.YtakhcgkhjmfndaaGreat
open Go.RowKit

theorem evalGo_ok {row : List Vl} {cols : Int} (hrow : ∀ v ∈ row, v.ok = true) : ∀ (ts : List Tk) (l m : Nat) (st st' : List Vl), exprGo cols ts l = some m → (∀ v ∈ st, v.ok = true) → evalGo row ts st = some st' → ∀ v ∈ st', v.ok = true
  | [], _, _, st, st', _, hs, he => by simp [evalGo] at he; subst he; exact hs
  | t :: ts, l, m, st, st', hx, hs, he => by
    simp only [exprGo] at hx
    split at hx
    · rename_i hc
      simp only [evalGo, evalStep] at he
      cases htv : tokVal row t (st.drop (st.length - takes t.k)) with
      | none => simp [htv] at he
      | some v =>
        simp only [htv, Option.map_some, Option.bind_some] at he
        refine evalGo_ok hrow ts _ m _ st' hx ?_ he
        intro u hu
        rw [List.mem_append, List.mem_singleton] at hu
        rcases hu with hu | rfl
        · exact hs u (List.mem_of_mem_take hu)
        · exact tokVal_ok hrow hc.1 htv
    · cases hx

theorem evalB_ok {ts : List Tk} {row : List Vl} {v : Vl} (h : evalB ts row = some v) : v.ok = true := by
  unfold evalB at h
  split at h
  · rename_i hc
    rw [Bool.and_eq_true] at hc
    obtain ⟨st, hst, hv⟩ := Option.bind_eq_some_iff.1 h
    have hrow : ∀ v ∈ row, v.ok = true := by have := hc.1; simp [rowB] at this; exact this.2
    exact evalGo_ok hrow ts 0 1 [] st (exprB_go hc.2).1 (by simp) hst v (List.mem_of_getElem? hv)
  · cases h

/-- The truth of an expression; -1: there is none. -/
def truthB (ts : List Tk) (row : List Vl) : Int := match evalB ts row with
  | some v => truOf v
  | none => -1

set_option maxRecDepth 100000 in
set_option maxHeartbeats 400000 in
theorem implTruth (A R : Option Addr) (n m cap capR : Nat) (ts : List Tk) (row : List Vl) (w : World) (h : Toks w A n ts) (hr : Vals w R m row) (hn : n ≤ maxLen) (hm : m ≤ maxLen) :
    Calls Tryz.prog 70 #[.slice A n cap, .slice R m capR] w fun e w' => e = .returned (.int .i64 (truthB ts row)) ∧ Below w.heap.size w w' := by
  cases hv : evalB ts row with
  | none =>
    have HV := Lib.hid (show truthB ts row = -1 by simp [truthB, hv])
    have HE := Lib.hid hv
    clear hv
    go_enter Tryz.func70, Tryz.ntmps70
    go_wp2_with fail
    refine (implEval A R n m cap capR ts row _ h hr hn hm).mono ?_
    rintro e w1 ⟨rfl, hb1⟩
    rw [HE.out]
    simp only [Option.getD_none, Option.isSome_none]
    go_wp2
    go_ret
    first | exact ⟨retI (by rw [HV.out]), hb1.alloc hb1.size _⟩ | exact ⟨retI (by rw [HV.out]), hb1⟩
  | some v =>
    have HV := Lib.hid (show truthB ts row = truOf v by simp [truthB, hv])
    have hok := evalB_ok hv
    have HE := Lib.hid hv
    have HO := Lib.hid hok
    clear hv hok
    go_enter Tryz.func70, Tryz.ntmps70
    go_wp2_with fail
    refine (implEval A R n m cap capR ts row _ h hr hn hm).mono ?_
    rintro e w1 ⟨rfl, hb1⟩
    rw [HE.out]
    simp only [Option.getD_some, Option.isSome_some]
    go_wp2_with fail
    refine (implTruthOf v _ HO.out).mono ?_
    rintro e w2 ⟨rfl, hb2⟩
    go_wp2
    go_ret
    have hz := hb1.alloc hb1.size (.cells #[.int .i64 v.k, .int .i64 v.n, .string v.s] 57)
    exact ⟨retI (by rw [HV.out]), hz.trans (hb2.mono hz.size)⟩
end Go.Proofs.YtakhcgkhjmfndaaGreat
