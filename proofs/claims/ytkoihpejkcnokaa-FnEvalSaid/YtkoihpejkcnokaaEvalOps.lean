/-
  Two expressions and an operator of both, as plain mathematics; how a truth is told.
-/
import Derived.Test.YtkoihpejkcnokaaTruMath
import Derived.Test.YtkoihpejkcnokaaReads
namespace Go.Proofs.Ytkoihpejkcnokaa
open Go.RowKit
set_option linter.unusedVariables false
set_option linter.unusedSimpArgs false

theorem exprGo_pair {es gs : List Tk} {cols : Int} (h : exprGo cols es 0 = some 1) (h' : exprGo cols gs 0 = some 1) : exprGo cols (es ++ gs) 0 = some 2 := by
  rw [exprGo_append, h]
  exact exprGo_more cols 1 gs 0 1 h'
theorem evalGo_pair {es gs : List Tk} {row : List Vl} {v u : Vl} (h : evalGo row es [] = some [v]) (h' : exprGo row.length gs 0 = some 1) (hg : evalGo row gs [] = some [u]) : evalGo row (es ++ gs) [] = some [v, u] := by
  rw [evalGo_append, h]
  simp only [Option.bind_some]
  have := evalGo_more (row := row) (cols := row.length) [v] gs [] 1 h'
  rw [List.append_nil] at this
  rw [this, hg]; rfl
/-- An expression of which two are, with an op of both behind. -/
theorem evalB_op2 {es gs : List Tk} {row : List Vl} {v u : Vl} {k : Int} (hk : k = 3 ∨ k = 4) (hl : es.length + gs.length + 1 ≤ 24) (he : evalB es row = some v) (hg : evalB gs row = some u) : evalB ((es ++ gs) ++ [opTk k]) row = op2 k v u := by
  obtain ⟨hr, h1, hx⟩ := evalB_parts he
  obtain ⟨-, h2, hy⟩ := evalB_parts hg
  have ev := evalGo_one hr h1 hx he
  have eu := evalGo_one hr h2 hy hg
  have ht : takes (opTk k).k = 2 := by rcases hk with rfl | rfl <;> rfl
  have hx2 : exprGo row.length ((es ++ gs) ++ [opTk k]) 0 = some 1 := by
    rw [exprGo_append, exprGo_pair hx hy]
    simp only [Option.bind_some, exprGo, ht]
    rw [if_pos ⟨tokB_op (by omega) (by omega), by decide⟩]
  rw [evalB_right hr (by simp; omega) hx2, evalGo_append, evalGo_pair ev hy eu]
  simp only [Option.bind_some, evalGo, evalStep, ht]
  simp only [List.length_cons, List.length_nil, Nat.zero_add, Nat.reduceAdd, Nat.sub_self, List.drop_zero, List.take_zero, List.nil_append, tokVal_op2 (show (3 : Int) ≤ k by omega)]
  cases op2 k v u <;> rfl
theorem eq3_012 (k n : Int) (s : ByteArray) (k' n' : Int) (s' : ByteArray) : eq3 k n s k' n' s' = 0 ∨ eq3 k n s k' n' s' = 1 ∨ eq3 k n s k' n' s' = 2 := by
  unfold eq3; split
  · rcases yes01 (sameV k n s k' n' s') with h | h <;> simp [h]
  · simp
theorem less3_012 (k n : Int) (s : ByteArray) (k' n' : Int) (s' : ByteArray) : less3 k n s k' n' s' = 0 ∨ less3 k n s k' n' s' = 1 ∨ less3 k n s k' n' s' = 2 := by
  unfold less3; split
  · rcases yes01 (decide (ordV k n s k' n' s' < 0)) with h | h <;> simp [h]
  · simp
theorem evalB_eq {es gs : List Tk} {row : List Vl} {v u : Vl} (hl : es.length + gs.length + 1 ≤ 24) (he : evalB es row = some v) (hg : evalB gs row = some u) : evalB ((es ++ gs) ++ [opTk 3]) row = some (asVl (eq3 v.k v.n v.s u.k u.n u.s)) := by
  rw [evalB_op2 (Or.inl rfl) hl he hg]
  unfold op2
  rw [if_pos rfl]
  rcases eq3_012 v.k v.n v.s u.k u.n u.s with h | h | h <;> rw [h] <;> rfl
theorem evalB_less {es gs : List Tk} {row : List Vl} {v u : Vl} (hl : es.length + gs.length + 1 ≤ 24) (he : evalB es row = some v) (hg : evalB gs row = some u) : evalB ((es ++ gs) ++ [opTk 4]) row = some (asVl (less3 v.k v.n v.s u.k u.n u.s)) := by
  rw [evalB_op2 (Or.inr rfl) hl he hg]
  unfold op2
  rw [if_neg (by decide), if_pos rfl]
  rcases less3_012 v.k v.n v.s u.k u.n u.s with h | h | h <;> rw [h] <;> rfl

theorem keepV12 {w w' : World} {p0 p1 p2 p3 p4 p5 p6 p7 p8 p9 p10 p11 : Addr} {v0 v1 v2 v3 v4 v5 v6 v7 v8 v9 v10 v11 : Value} (h : w.cell? p0 = some v0 ∧ w.cell? p1 = some v1 ∧ w.cell? p2 = some v2 ∧ w.cell? p3 = some v3 ∧ w.cell? p4 = some v4 ∧ w.cell? p5 = some v5 ∧ w.cell? p6 = some v6 ∧ w.cell? p7 = some v7 ∧ w.cell? p8 = some v8 ∧ w.cell? p9 = some v9 ∧ w.cell? p10 = some v10 ∧ w.cell? p11 = some v11) (hb : Below w.heap.size w w') : w'.cell? p0 = some v0 ∧ w'.cell? p1 = some v1 ∧ w'.cell? p2 = some v2 ∧ w'.cell? p3 = some v3 ∧ w'.cell? p4 = some v4 ∧ w'.cell? p5 = some v5 ∧ w'.cell? p6 = some v6 ∧ w'.cell? p7 = some v7 ∧ w'.cell? p8 = some v8 ∧ w'.cell? p9 = some v9 ∧ w'.cell? p10 = some v10 ∧ w'.cell? p11 = some v11 :=
  ⟨below_keep hb _ _ h.1, below_keep hb _ _ h.2.1, below_keep hb _ _ h.2.2.1, below_keep hb _ _ h.2.2.2.1, below_keep hb _ _ h.2.2.2.2.1, below_keep hb _ _ h.2.2.2.2.2.1, below_keep hb _ _ h.2.2.2.2.2.2.1, below_keep hb _ _ h.2.2.2.2.2.2.2.1, below_keep hb _ _ h.2.2.2.2.2.2.2.2.1, below_keep hb _ _ h.2.2.2.2.2.2.2.2.2.1, below_keep hb _ _ h.2.2.2.2.2.2.2.2.2.2.1, below_keep hb _ _ h.2.2.2.2.2.2.2.2.2.2.2⟩

/-- A truth that was made a value is told as it was. -/
theorem lawsTold3 (a : Int) (h : a = 0 ∨ a = 1 ∨ a = 2) (w : World) :
    Calls Try.prog 19 #[.agg #[.int .i64 (asVl a).k, .int .i64 (asVl a).n, .string (asVl a).s]] w fun e w' => e = .returned (.int .i64 a) ∧ Below w.heap.size w w' := by
  rcases h with rfl | rfl | rfl
  · have e1 : (asVl 0).k = 1 := rfl
    have e2 : (asVl 0).n = 0 := rfl
    rw [e1, e2]
    go_enter Try.func19, Try.ntmps19
    go_wp2
    go_ret
    exact ⟨rfl, (Below.refl _ _).alloc (Nat.le_refl _) _⟩
  · have e1 : (asVl 1).k = 1 := rfl
    have e2 : (asVl 1).n = 1 := rfl
    rw [e1, e2]
    go_enter Try.func19, Try.ntmps19
    go_wp2
    go_ret
    exact ⟨rfl, (Below.refl _ _).alloc (Nat.le_refl _) _⟩
  · have e1 : (asVl 2).k = 0 := rfl
    have e2 : (asVl 2).n = 0 := rfl
    rw [e1, e2]
    go_enter Try.func19, Try.ntmps19
    go_wp2
    go_ret
    exact ⟨rfl, (Below.refl _ _).alloc (Nat.le_refl _) _⟩
end Go.Proofs.Ytkoihpejkcnokaa
