/-
  Values of expressions as plain mathematics.
-/
import Derived.Test.YtakhcgkhjmfndaaGreatThree
import Derived.Test.YtakhcgkhjmfndaaGreatLogic
import Derived.Test.YtakhcgkhjmfndaaGreatExprMath
namespace Go.Proofs.YtakhcgkhjmfndaaGreat
open Go.RowKit

def Vl.zero : Vl := ⟨0, 0, ⟨#[]⟩⟩
def Vl.ok (v : Vl) : Bool := valOkB v.k v.n v.s
def Vl.agg (v : Vl) : Value := .agg #[.int .i64 v.k, .int .i64 v.n, .string v.s]

/-- The truth of a value; -1: it has none. -/
def truOf (v : Vl) : Int := if v.k = 0 then 2 else if v.k = 1 then yes (v.n != 0) else -1
/-- A truth as a value. -/
def asVl (a : Int) : Vl := if a = 2 then Vl.zero else ⟨1, a, ⟨#[]⟩⟩
def asOpt (a : Int) : Option Vl := if a = -1 then none else some (asVl a)
def sumVl (a b : Vl) (sg : Int) : Option Vl :=
  if a.k = 2 ∨ b.k = 2 then none else if a.k = 0 ∨ b.k = 0 then some Vl.zero
  else if -1000000000 ≤ a.n + sg * b.n ∧ a.n + sg * b.n ≤ 1000000000 then some ⟨1, a.n + sg * b.n, ⟨#[]⟩⟩ else none

def op1 (k : Int) (a : Vl) : Option Vl := if k = 7 then asOpt (not3 (truOf a)) else asOpt (yes (a.k == 0))
def op2 (k : Int) (a b : Vl) : Option Vl :=
  if k = 3 then asOpt (eq3 a.k a.n a.s b.k b.n b.s) else if k = 4 then asOpt (less3 a.k a.n a.s b.k b.n b.s)
  else if k = 5 then asOpt (and3 (truOf a) (truOf b)) else if k = 6 then asOpt (or3 (truOf a) (truOf b))
  else if k = 9 then sumVl a b 1 else sumVl a b (-1)

/-- What a part leaves of the values that it takes. -/
def opOf (k : Int) (xs : List Vl) : Option Vl :=
  match xs with
  | [a] => op1 k a
  | [a, b] => op2 k a b
  | _ => none

/-- The value that a part gives. -/
def tokVal (row : List Vl) (t : Tk) (xs : List Vl) : Option Vl :=
  if t.k = 1 then row[t.c.toNat]? else if t.k = 2 then some ⟨t.vk, t.vn, t.vs⟩ else opOf t.k xs

/-- One part more: the values that are left, the last one last. -/
def evalStep (row : List Vl) (t : Tk) (st : List Vl) : Option (List Vl) :=
  (tokVal row t (st.drop (st.length - takes t.k))).map fun v => st.take (st.length - takes t.k) ++ [v]

def evalGo (row : List Vl) : List Tk → List Vl → Option (List Vl)
  | [], st => some st
  | t :: ts, st => (evalStep row t st).bind (evalGo row ts)

def rowB (row : List Vl) : Bool := decide (row.length ≤ 16) && row.all Vl.ok

/-- The value of an expression. -/
def evalB (ts : List Tk) (row : List Vl) : Option Vl :=
  if (rowB row && exprB ts row.length) = true then ((evalGo row ts []).bind (·[0]?)) else none

def optV : Option Vl → Value
  | some v => .tuple #[v.agg, .bool true]
  | none => .tuple #[.agg #[.int .i64 0, .int .i64 0, .string ⟨#[]⟩], .bool false]

theorem evalGo_append (row : List Vl) : ∀ (a b : List Tk) (st : List Vl), evalGo row (a ++ b) st = (evalGo row a st).bind (evalGo row b)
  | [], b, st => rfl
  | t :: ts, b, st => by
    simp only [List.cons_append, evalGo]
    cases evalStep row t st with
    | none => rfl
    | some st' => simp [evalGo_append row ts b st']

theorem evalGo_snoc (row : List Vl) (ts : List Tk) (i : Nat) (hi : i < ts.length) (st st' : List Vl) (h : evalGo row (ts.take i) st = some st') :
    evalGo row (ts.take (i + 1)) st = evalStep row ts[i] st' := by
  rw [List.take_succ_eq_append_getElem hi, evalGo_append, h]
  simp only [Option.bind_some, evalGo]
  cases evalStep row ts[i] st' <;> rfl
theorem evalGo_dead (row : List Vl) (ts : List Tk) (i : Nat) (st : List Vl) (h : evalGo row (ts.take i) st = none) : evalGo row ts st = none := by
  have e : ts = ts.take i ++ ts.drop i := (List.take_append_drop i ts).symm
  rw [e, evalGo_append, h]
  rfl

theorem truOf_cases {v : Vl} (h : v.ok = true) : (v.k = 0 ∧ truOf v = 2) ∨ (v.k = 1 ∧ (truOf v = 0 ∨ truOf v = 1)) ∨ (v.k = 2 ∧ truOf v = -1) := by
  have h1 : v.k = 0 ∨ v.k = 1 ∨ v.k = 2 := by
    unfold Vl.ok valOkB at h
    by_cases a : v.k = 0
    · exact .inl a
    by_cases b : v.k = 1
    · exact .inr (.inl b)
    by_cases c : v.k = 2
    · exact .inr (.inr c)
    · simp [a, b, c] at h
  rcases h1 with e | e | e
  · left; simp [truOf, e]
  · right; left; refine ⟨e, ?_⟩; unfold truOf yes; rw [e]; simp; exact Classical.em _
  · right; right; simp [truOf, e]

theorem asVl_ok {a : Int} (h : a = 0 ∨ a = 1 ∨ a = 2) : (asVl a).ok = true := by
  rcases h with rfl | rfl | rfl <;> simp [asVl, Vl.zero, Vl.ok, valOkB]

theorem asOpt_ok {a : Int} (h : a = -1 ∨ a = 0 ∨ a = 1 ∨ a = 2) {v : Vl} (e : asOpt a = some v) : v.ok = true := by
  unfold asOpt at e
  rcases h with rfl | h
  · simp at e
  · rw [if_neg (by omega)] at e
    cases e
    exact asVl_ok h

theorem sumVl_ok {a b : Vl} {sg : Int} {v : Vl} (e : sumVl a b sg = some v) : v.ok = true := by
  unfold sumVl at e
  split at e
  · cases e
  · split at e
    · cases e; simp [Vl.zero, Vl.ok, valOkB]
    · split at e
      · rename_i h
        cases e
        simp [Vl.ok, valOkB, h.1, h.2]
      · cases e

theorem yes01 (b : Bool) : yes b = 0 ∨ yes b = 1 := by cases b <;> simp [yes]
theorem eq3_rng (k n : Int) (s : ByteArray) (k' n' : Int) (s' : ByteArray) : eq3 k n s k' n' s' = -1 ∨ eq3 k n s k' n' s' = 0 ∨ eq3 k n s k' n' s' = 1 ∨ eq3 k n s k' n' s' = 2 := by
  unfold eq3; split
  · rcases yes01 (sameV k n s k' n' s') with h | h <;> simp [h]
  · simp
theorem less3_rng (k n : Int) (s : ByteArray) (k' n' : Int) (s' : ByteArray) : less3 k n s k' n' s' = -1 ∨ less3 k n s k' n' s' = 0 ∨ less3 k n s k' n' s' = 1 ∨ less3 k n s k' n' s' = 2 := by
  unfold less3; split
  · rcases yes01 (decide (ordV k n s k' n' s' < 0)) with h | h <;> simp [h]
  · simp
theorem and3_rng (a b : Int) : and3 a b = -1 ∨ and3 a b = 0 ∨ and3 a b = 1 ∨ and3 a b = 2 := by unfold and3; (repeat' split) <;> simp
theorem or3_rng (a b : Int) : or3 a b = -1 ∨ or3 a b = 0 ∨ or3 a b = 1 ∨ or3 a b = 2 := by unfold or3; (repeat' split) <;> simp
theorem not3_rng (a : Int) : not3 a = -1 ∨ not3 a = 0 ∨ not3 a = 1 ∨ not3 a = 2 := by unfold not3; (repeat' split) <;> simp

theorem op1_ok {k : Int} {a v : Vl} (e : op1 k a = some v) : v.ok = true := by
  unfold op1 at e
  split at e
  · exact asOpt_ok (not3_rng _) e
  · exact asOpt_ok (by rcases yes01 (a.k == 0) with h | h <;> simp [h]) e
theorem op2_ok {k : Int} {a b v : Vl} (e : op2 k a b = some v) : v.ok = true := by
  unfold op2 at e
  split at e
  · exact asOpt_ok (eq3_rng ..) e
  split at e
  · exact asOpt_ok (less3_rng ..) e
  split at e
  · exact asOpt_ok (and3_rng ..) e
  split at e
  · exact asOpt_ok (or3_rng ..) e
  split at e
  · exact sumVl_ok e
  · exact sumVl_ok e
theorem opOf_ok {k : Int} {xs : List Vl} {v : Vl} (e : opOf k xs = some v) : v.ok = true := by
  unfold opOf at e
  split at e
  · exact op1_ok e
  · exact op2_ok e
  · cases e

/-- What is right as a whole is right part by part. -/
theorem right_at {cols : Int} {ts : List Tk} (h : exprGo cols ts 0 = some 1) {k l : Nat} (hk : k < ts.length) (hg : exprGo cols (ts.take k) 0 = some l) :
    tokB ts[k] cols = true ∧ takes ts[k].k ≤ l ∧ exprGo cols (ts.take (k + 1)) 0 = some (l - takes ts[k].k + 1) := by
  have hs := exprGo_snoc cols ts k hk 0 l hg
  by_cases hc : tokB ts[k] cols = true ∧ takes ts[k].k ≤ l
  · rw [if_pos hc] at hs
    exact ⟨hc.1, hc.2, hs⟩
  · rw [if_neg hc] at hs
    rw [exprGo_dead cols ts (k + 1) 0 hs] at h
    cases h

theorem exprB_go {ts : List Tk} {cols : Int} (h : exprB ts cols = true) : exprGo cols ts 0 = some 1 ∧ ts.length ≤ 24 := by
  simp [exprB] at h
  exact ⟨h.2.2.2, h.2.2.1⟩

theorem tokVal_ok {row : List Vl} {t : Tk} {xs : List Vl} {v : Vl} {cols : Int} (hrow : ∀ v ∈ row, v.ok = true) (ht : tokB t cols = true) (e : tokVal row t xs = some v) : v.ok = true := by
  unfold tokVal at e
  split at e
  · exact hrow v (List.mem_of_getElem? e)
  · split at e
    · rename_i h1 h2
      cases e
      unfold tokB at ht
      rw [if_neg h1, if_pos h2] at ht
      simp at ht
      exact ht.2
    · exact opOf_ok e

theorem evalStep_none {row : List Vl} {t : Tk} {st : List Vl} (h : tokVal row t (st.drop (st.length - takes t.k)) = none) : evalStep row t st = none := by simp [evalStep, h]
theorem evalStep_some {row : List Vl} {t : Tk} {st : List Vl} {v : Vl} (h : tokVal row t (st.drop (st.length - takes t.k)) = some v) : evalStep row t st = some (st.take (st.length - takes t.k) ++ [v]) := by simp [evalStep, h]
end Go.Proofs.YtakhcgkhjmfndaaGreat
