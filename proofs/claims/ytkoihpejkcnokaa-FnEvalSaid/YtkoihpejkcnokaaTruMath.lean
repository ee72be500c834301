/-
  Truths of expressions with an operator behind, as plain mathematics.
-/
import Derived.Test.YtkoihpejkcnokaaTruth
namespace Go.Proofs.Ytkoihpejkcnokaa
open Go.RowKit
set_option linter.unusedVariables false
set_option linter.unusedSimpArgs false

def opTk (k : Int) : Tk := ⟨k, 0, 0, 0, ⟨#[]⟩⟩
theorem tokB_op {k cols : Int} (h : 3 ≤ k) (h' : k ≤ 10) : tokB (opTk k) cols = true := by
  unfold tokB opTk isOpB zeroB
  rw [if_neg (by simp; omega), if_neg (by simp; omega)]
  simp [h, h']
theorem exprGo_more (cols : Int) (d : Nat) : ∀ (ts : List Tk) (l m : Nat), exprGo cols ts l = some m → exprGo cols ts (d + l) = some (d + m)
  | [], l, m, h => by simp [exprGo] at h ⊢; omega
  | t :: ts, l, m, h => by
    simp only [exprGo] at h ⊢
    split at h
    · rename_i hc
      rw [if_pos ⟨hc.1, by omega⟩, show d + l - takes t.k + 1 = d + (l - takes t.k + 1) by omega]
      exact exprGo_more cols d ts _ _ h
    · cases h
theorem evalGo_more {row : List Vl} {cols : Int} (pre : List Vl) : ∀ (ts : List Tk) (st : List Vl) (m : Nat), exprGo cols ts st.length = some m → evalGo row ts (pre ++ st) = (evalGo row ts st).map (pre ++ ·)
  | [], st, m, h => by simp [evalGo]
  | t :: ts, st, m, h => by
    simp only [exprGo] at h
    split at h
    · rename_i hc
      have e1 : (pre ++ st).drop ((pre ++ st).length - takes t.k) = st.drop (st.length - takes t.k) := by
        rw [List.length_append, List.drop_append, List.drop_of_length_le (by omega), List.nil_append]; congr 1; omega
      have e2 : (pre ++ st).take ((pre ++ st).length - takes t.k) = pre ++ st.take (st.length - takes t.k) := by
        rw [List.length_append, List.take_append, List.take_of_length_le (by omega)]; congr 2; omega
      simp only [evalGo, evalStep, e1, e2]
      cases tokVal row t (st.drop (st.length - takes t.k)) with
      | none => rfl
      | some v =>
        simp only [Option.map_some, Option.bind_some]
        rw [List.append_assoc]
        refine evalGo_more (cols := cols) pre ts _ m ?_
        rw [List.length_append, List.length_take, List.length_singleton]
        rw [show min (st.length - takes t.k) st.length + 1 = st.length - takes t.k + 1 by omega]
        exact h
    · cases h
theorem evalGo_len {row : List Vl} {cols : Int} : ∀ (ts : List Tk) (st st' : List Vl) (m : Nat), exprGo cols ts st.length = some m → evalGo row ts st = some st' → st'.length = m
  | [], st, st', m, h, e => by simp [exprGo] at h; simp [evalGo] at e; subst e; exact h
  | t :: ts, st, st', m, h, e => by
    simp only [exprGo] at h
    split at h
    · rename_i hc
      simp only [evalGo, evalStep] at e
      cases hv : tokVal row t (st.drop (st.length - takes t.k)) with
      | none => simp [hv] at e
      | some v =>
        simp only [hv, Option.map_some, Option.bind_some] at e
        refine evalGo_len (cols := cols) ts _ st' m ?_ e
        rw [List.length_append, List.length_take, List.length_singleton]
        rw [show min (st.length - takes t.k) st.length + 1 = st.length - takes t.k + 1 by omega]
        exact h
    · cases h
theorem exprB_iff {ts : List Tk} {row : List Vl} (hr : rowB row = true) : exprB ts row.length = (decide (ts.length ≤ 24) && (exprGo row.length ts 0 == some 1)) := by
  have h : row.length ≤ 16 := by simp [rowB] at hr; exact hr.1
  unfold exprB
  rw [decide_eq_true (show (0 : Int) ≤ row.length by omega), decide_eq_true (show (row.length : Int) ≤ 16 by omega)]
  simp
theorem evalB_right {ts : List Tk} {row : List Vl} (hr : rowB row = true) (hl : ts.length ≤ 24) (hx : exprGo row.length ts 0 = some 1) : evalB ts row = (evalGo row ts []).bind (·[0]?) := by
  unfold evalB
  rw [exprB_iff hr, hx, hr, decide_eq_true hl]; rfl
theorem evalB_wrong {ts : List Tk} {row : List Vl} (hx : exprGo row.length ts 0 ≠ some 1) : evalB ts row = none := by
  unfold evalB
  rw [if_neg]
  intro h
  rw [Bool.and_eq_true] at h
  exact hx (exprB_go h.2).1
theorem evalB_row' {ts : List Tk} {row : List Vl} (hr : rowB row = false) : evalB ts row = none := by simp [evalB, hr]
/-- One value stands behind a right expression that has one. -/
theorem evalGo_one {ts : List Tk} {row : List Vl} {v : Vl} (hr : rowB row = true) (hl : ts.length ≤ 24) (hx : exprGo row.length ts 0 = some 1) (hv : evalB ts row = some v) : evalGo row ts [] = some [v] := by
  rw [evalB_right hr hl hx] at hv
  obtain ⟨st, hst, h0⟩ := Option.bind_eq_some_iff.1 hv
  have hlen := evalGo_len (cols := row.length) ts [] st 1 hx hst
  match st, hlen, h0 with
  | [u], _, h0 => simp at h0; subst h0; exact hst
theorem evalB_parts {ts : List Tk} {row : List Vl} {v : Vl} (hv : evalB ts row = some v) : rowB row = true ∧ ts.length ≤ 24 ∧ exprGo row.length ts 0 = some 1 := by
  unfold evalB at hv
  split at hv
  · rename_i h
    rw [Bool.and_eq_true] at h
    have := exprB_go h.2
    exact ⟨h.1, this.2, this.1⟩
  · cases hv
theorem exprGo_op1 {ts : List Tk} {cols k : Int} (hk : k = 7 ∨ k = 8) : exprGo cols (ts ++ [opTk k]) 0 = (exprGo cols ts 0).bind fun l => if 1 ≤ l then some l else none := by
  rw [exprGo_append]
  congr 1
  funext l
  have ht : takes (opTk k).k = 1 := by rcases hk with rfl | rfl <;> rfl
  simp only [exprGo, ht, tokB_op (k := k) (cols := cols) (by omega) (by omega), true_and]
  split
  · congr 1; omega
  · rfl
theorem exprGo_one1 {ts : List Tk} {cols k : Int} (hk : k = 7 ∨ k = 8) : exprGo cols (ts ++ [opTk k]) 0 = some 1 ↔ exprGo cols ts 0 = some 1 := by
  rw [exprGo_op1 hk]
  cases exprGo cols ts 0 with
  | none => simp
  | some l =>
    simp only [Option.bind_some]
    split
    · simp
    · simp; omega
/-- With an operator of one value behind. -/
theorem evalB_op1 {ts : List Tk} {row : List Vl} {k : Int} (hk : k = 7 ∨ k = 8) (hl : ts.length < 24) : evalB (ts ++ [opTk k]) row = (evalB ts row).bind (op1 k) := by
  cases hr : rowB row
  · rw [evalB_row' hr, evalB_row' hr]; rfl
  by_cases hx : exprGo row.length ts 0 = some 1
  · have hx' := (exprGo_one1 (k := k) hk).2 hx
    rw [evalB_right hr (by simp; omega) hx', evalGo_append]
    cases hv : evalB ts row with
    | none =>
      rw [evalB_right hr (by omega) hx] at hv
      cases hg : evalGo row ts [] with
      | none => rfl
      | some st =>
        have hlen := evalGo_len (cols := row.length) ts [] st 1 hx hg
        match st, hlen with
        | [u], _ => rw [hg] at hv; simp at hv
    | some v =>
      rw [evalGo_one hr (by omega) hx hv]
      have ht : takes (opTk k).k = 1 := by rcases hk with rfl | rfl <;> rfl
      have htv : tokVal row (opTk k) [v] = op1 k v := by
        unfold tokVal
        rw [if_neg (show ¬ (opTk k).k = 1 by simp [opTk]; omega), if_neg (show ¬ (opTk k).k = 2 by simp [opTk]; omega)]; rfl
      simp only [Option.bind_some, evalGo, evalStep, ht, List.length_singleton, Nat.sub_self, List.drop_zero, List.take_zero, htv, List.nil_append]
      cases op1 k v <;> rfl
  · rw [evalB_wrong hx, evalB_wrong (fun h => hx ((exprGo_one1 hk).1 h))]; rfl
theorem truOf_asVl {a : Int} (h : a = 0 ∨ a = 1 ∨ a = 2) : truOf (asVl a) = a := by
  rcases h with rfl | rfl | rfl <;> rfl
theorem truthB_some {ts : List Tk} {row : List Vl} (h : 0 ≤ truthB ts row) : ∃ v, evalB ts row = some v ∧ truOf v = truthB ts row ∧ (truthB ts row = 0 ∨ truthB ts row = 1 ∨ truthB ts row = 2) := by
  unfold truthB at h ⊢
  cases hv : evalB ts row with
  | none => rw [hv] at h; simp at h
  | some v =>
    rw [hv] at h
    have hc := truOf_cases (evalB_ok hv)
    refine ⟨v, rfl, rfl, ?_⟩
    simp only at h ⊢
    omega
theorem truthB_rng' (ts : List Tk) (row : List Vl) : truthB ts row = -1 ∨ truthB ts row = 0 ∨ truthB ts row = 1 ∨ truthB ts row = 2 := by
  by_cases h : 0 ≤ truthB ts row
  · obtain ⟨_, _, _, h1⟩ := truthB_some h; omega
  · unfold truthB at h ⊢
    cases hv : evalB ts row with
    | none => left; rfl
    | some v =>
      rw [hv] at h
      have hc := truOf_cases (evalB_ok hv)
      simp only at h ⊢
      omega
theorem not3_in {a : Int} (h : a = 0 ∨ a = 1 ∨ a = 2) : not3 a = 0 ∨ not3 a = 1 ∨ not3 a = 2 := by rcases h with rfl | rfl | rfl <;> simp [not3]
theorem truthB_not {ts : List Tk} {row : List Vl} (hl : ts.length < 24) : truthB (ts ++ [opTk 7]) row = not3 (truthB ts row) := by
  unfold truthB
  rw [evalB_op1 (Or.inl rfl) hl]
  cases hv : evalB ts row with
  | none => rfl
  | some v =>
    simp only [Option.bind_some]
    unfold op1
    rw [if_pos rfl]
    rcases truOf_cases (evalB_ok hv) with ⟨-, h⟩ | ⟨-, h⟩ | ⟨-, h⟩
    · rw [h]; rfl
    · rcases h with h | h <;> rw [h] <;> rfl
    · rw [h]; rfl
theorem truthB_null {ts : List Tk} {row : List Vl} (hl : ts.length < 24) (h : 0 ≤ truthB ts row) : truthB (ts ++ [opTk 8]) row = yes (truthB ts row == 2) := by
  obtain ⟨v, hv, hv2, h3⟩ := truthB_some h
  have hc := truOf_cases (evalB_ok hv)
  have e : truthB (ts ++ [opTk 8]) row = yes (v.k == 0) := by
    unfold truthB
    rw [evalB_op1 (Or.inr rfl) hl, hv]
    simp only [Option.bind_some]
    unfold op1
    rw [if_neg (by decide)]
    cases (v.k == 0) <;> rfl
  rw [e]
  congr 1
  rw [← hv2]
  rw [Bool.eq_iff_iff, beq_iff_eq, beq_iff_eq]
  omega
theorem exprGo_two {ts : List Tk} {cols : Int} (hx : exprGo cols ts 0 = some 1) : exprGo cols (ts ++ ts) 0 = some 2 := by
  rw [exprGo_append, hx]
  exact exprGo_more cols 1 ts 0 1 hx
theorem evalGo_two {ts : List Tk} {row : List Vl} {v : Vl} (hx : exprGo row.length ts 0 = some 1) (hg : evalGo row ts [] = some [v]) : evalGo row (ts ++ ts) [] = some [v, v] := by
  rw [evalGo_append, hg]
  simp only [Option.bind_some]
  have := evalGo_more (row := row) (cols := row.length) [v] ts [] 1 hx
  rw [List.append_nil] at this
  rw [this, hg]; rfl
theorem tokVal_op2 {row : List Vl} {k : Int} (h : 3 ≤ k) (a b : Vl) : tokVal row (opTk k) [a, b] = op2 k a b := by
  unfold tokVal
  rw [if_neg (show ¬ (opTk k).k = 1 by simp [opTk]; omega), if_neg (show ¬ (opTk k).k = 2 by simp [opTk]; omega)]; rfl
/-- An expression and itself. -/
theorem truthB_both {ts : List Tk} {row : List Vl} (hl : 2 * ts.length + 2 ≤ 24) (h : 0 ≤ truthB ts row) : truthB ((ts ++ ts) ++ [opTk 5]) row = truthB ts row := by
  obtain ⟨v, hv, hv2, h3⟩ := truthB_some h
  obtain ⟨hr, -, hx⟩ := evalB_parts hv
  have hg := evalGo_one hr (by omega) hx hv
  have hx2 : exprGo row.length ((ts ++ ts) ++ [opTk 5]) 0 = some 1 := by
    rw [exprGo_append, exprGo_two hx]
    simp only [Option.bind_some, exprGo]
    rw [if_pos ⟨tokB_op (by omega) (by omega), by decide⟩]; rfl
  have he : evalB ((ts ++ ts) ++ [opTk 5]) row = some (asVl (truthB ts row)) := by
    rw [evalB_right hr (by simp; omega) hx2, evalGo_append, evalGo_two hx hg]
    simp only [Option.bind_some, evalGo, evalStep]
    rw [show takes (opTk 5).k = 2 from rfl]
    simp only [List.length_cons, List.length_nil, Nat.zero_add, Nat.reduceAdd, Nat.sub_self, List.drop_zero, List.take_zero, List.nil_append, tokVal_op2 (show (3 : Int) ≤ 5 by omega)]
    have : op2 5 v v = some (asVl (truthB ts row)) := by
      unfold op2
      rw [if_neg (by decide), if_neg (by decide), if_pos rfl, hv2]
      rcases h3 with h3 | h3 | h3 <;> rw [h3] <;> rfl
    rw [this]; rfl
  have e2 : truthB ((ts ++ ts) ++ [opTk 5]) row = truOf (asVl (truthB ts row)) := by
    conv => lhs; unfold truthB
    rw [he]
  rw [e2, truOf_asVl h3]
/-- An expression or its opposite. -/
theorem truthB_or {ts : List Tk} {row : List Vl} (hl : 2 * ts.length + 2 ≤ 24) (h : 0 ≤ truthB ts row) : truthB ((ts ++ ts) ++ [opTk 7, opTk 6]) row = or3 (truthB ts row) (not3 (truthB ts row)) := by
  obtain ⟨v, hv, hv2, h3⟩ := truthB_some h
  obtain ⟨hr, -, hx⟩ := evalB_parts hv
  have hg := evalGo_one hr (by omega) hx hv
  have hx2 : exprGo row.length ((ts ++ ts) ++ [opTk 7, opTk 6]) 0 = some 1 := by
    rw [exprGo_append, exprGo_two hx]
    simp only [Option.bind_some, exprGo]
    rw [if_pos ⟨tokB_op (by omega) (by omega), by decide⟩, if_pos ⟨tokB_op (by omega) (by omega), by decide⟩]; rfl
  have hn : op1 7 v = some (asVl (not3 (truthB ts row))) := by
    unfold op1
    rw [if_pos rfl, hv2]
    rcases h3 with h3 | h3 | h3 <;> rw [h3] <;> rfl
  have ho : op2 6 v (asVl (not3 (truthB ts row))) = some (asVl (or3 (truthB ts row) (not3 (truthB ts row)))) := by
    unfold op2
    rw [if_neg (by decide), if_neg (by decide), if_neg (by decide), if_pos rfl, hv2, truOf_asVl (not3_in h3)]
    rcases h3 with h3 | h3 | h3 <;> rw [h3] <;> rfl
  have htv : tokVal row (opTk 7) [v] = op1 7 v := by
    unfold tokVal
    rw [if_neg (by decide), if_neg (by decide)]; rfl
  have he : evalB ((ts ++ ts) ++ [opTk 7, opTk 6]) row = some (asVl (or3 (truthB ts row) (not3 (truthB ts row)))) := by
    rw [evalB_right hr (by simp; omega) hx2, evalGo_append, evalGo_two hx hg]
    simp only [Option.bind_some, evalGo, evalStep]
    rw [show takes (opTk 7).k = 1 from rfl, show takes (opTk 6).k = 2 from rfl]
    simp only [List.length_cons, List.length_nil, Nat.zero_add, Nat.reduceAdd, Nat.reduceSub, List.drop_succ_cons, List.drop_zero, List.take_succ_cons, List.take_zero, htv, hn, Option.map_some, Option.bind_some, List.cons_append, List.nil_append]
    simp only [List.length_cons, List.length_nil, Nat.zero_add, Nat.reduceAdd, Nat.sub_self, List.drop_zero, List.take_zero, List.nil_append, tokVal_op2 (show (3 : Int) ≤ 6 by omega), ho, Option.map_some, Option.bind_some]
    rfl
  have e2 : truthB ((ts ++ ts) ++ [opTk 7, opTk 6]) row = truOf (asVl (or3 (truthB ts row) (not3 (truthB ts row)))) := by
    conv => lhs; unfold truthB
    rw [he]
  rw [e2, truOf_asVl (by rcases h3 with h3 | h3 | h3 <;> rw [h3] <;> simp [or3, not3, tru])]
end Go.Proofs.Ytkoihpejkcnokaa
