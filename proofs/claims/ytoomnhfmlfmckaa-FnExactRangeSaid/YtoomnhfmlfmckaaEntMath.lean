/-
  Entries of an index as data: their order, which lists of them are right.
-/
import Derived.Test.YtoomnhfmlfmckaaOrdMath
import Derived.Test.YtoomnhfmlfmckaaEvalMath
import Derived.Test.YtoomnhfmlfmckaaTo
namespace Go.Proofs.Ytoomnhfmlfmckaa
open Go.RowKit
set_option linter.unusedVariables false
set_option linter.unusedSimpArgs false

def ordX (x y : Vl) : Int := ordOk x.k x.n x.s y.k y.n y.s
/-- By the first value, the next ..; a shorter one is ahead. -/
def ordL : List Vl → List Vl → Int
  | [], [] => 0
  | [], _ :: _ => -1
  | _ :: _, [] => 1
  | x :: a, y :: b => if ordX x y = 0 then ordL a b else ordX x y
def ordE (a b : En) : Int := if ordL a.key b.key = 0 then cmpI a.id b.id else ordL a.key b.key
def entryB (e : En) : Bool := decide (1 ≤ e.key.length) && (rowB e.key && (decide (1 ≤ e.id) && decide (e.id ≤ 1000000000)))
def wideOf (l : List En) : Nat := ((l[0]?).map fun e => e.key.length).getD 0
def entW (n : Nat) (e : En) : Bool := entryB e && decide (e.key.length = n)
def upB (l : List En) (i : Nat) : Bool := match l[i]?, l[i + 1]? with
  | some a, some b => decide (ordE a b < 0)
  | _, _ => true
def risesB (l : List En) : Bool := (List.range l.length).all (upB l)
def entriesB (l : List En) : Bool := decide (l.length ≤ 120) && (l.all (entW (wideOf l)) && risesB l)

theorem ordX_bd (x y : Vl) : -1 ≤ ordX x y ∧ ordX x y ≤ 1 := ordOk_bd _ _ _ _ _ _
theorem ordX_neg (x y : Vl) : ordX y x = -ordX x y := ordOk_neg _ _ _ _ _ _
theorem ordL_bd : ∀ a b : List Vl, -1 ≤ ordL a b ∧ ordL a b ≤ 1
  | [], [] => by simp [ordL]
  | [], _ :: _ => by simp [ordL]
  | _ :: _, [] => by simp [ordL]
  | x :: a, y :: b => by
    unfold ordL
    split
    · exact ordL_bd a b
    · exact ordX_bd x y
theorem ordE_bd (a b : En) : -1 ≤ ordE a b ∧ ordE a b ≤ 1 := by
  unfold ordE
  split
  · unfold cmpI; repeat' split <;> omega
  · exact ordL_bd _ _
theorem ordL_at {a b : List Vl} {k : Nat} (h : k < a.length) (h' : k < b.length) : ordL (a.drop k) (b.drop k) = if ordX a[k] b[k] = 0 then ordL (a.drop (k + 1)) (b.drop (k + 1)) else ordX a[k] b[k] := by
  rw [List.drop_eq_getElem_cons h, List.drop_eq_getElem_cons h']; rfl
theorem ordL_end {a b : List Vl} {k : Nat} (h : k < a.length) (h' : b.length ≤ k) : ordL (a.drop k) (b.drop k) = 1 := by
  rw [List.drop_eq_getElem_cons h, List.drop_of_length_le h']; rfl
theorem ordL_off {a b : List Vl} {k : Nat} (h : a.length ≤ k) (h' : k < b.length) : ordL (a.drop k) (b.drop k) = -1 := by
  rw [List.drop_of_length_le h, List.drop_eq_getElem_cons h']; rfl
theorem ordL_both {a b : List Vl} {k : Nat} (h : a.length ≤ k) (h' : b.length ≤ k) : ordL (a.drop k) (b.drop k) = 0 := by
  rw [List.drop_of_length_le h, List.drop_of_length_le h']; rfl
theorem upB_at {l : List En} {i : Nat} (h : i + 1 < l.length) : upB l i = decide (ordE l[i] l[i + 1] < 0) := by
  unfold upB
  rw [List.getElem?_eq_getElem (by omega), List.getElem?_eq_getElem h]
theorem upB_last {l : List En} {i : Nat} (h : l.length ≤ i + 1) : upB l i = true := by
  unfold upB
  rw [List.getElem?_eq_none h]
  split
  · next h1 h2 => cases h2
  · rfl
theorem all_take_succE {α : Type} (f : α → Bool) (l : List α) (k : Nat) (h : k < l.length) : (l.take (k + 1)).all f = ((l.take k).all f && f l[k]) := by
  rw [List.take_succ_eq_append_getElem h, List.all_append]; simp
theorem range_all_succ (f : Nat → Bool) (k : Nat) : (List.range (k + 1)).all f = ((List.range k).all f && f k) := by
  rw [List.range_succ, List.all_append]; simp
theorem rises_no {l : List En} {i : Nat} (h : i + 1 < l.length) (hn : ¬ ordE l[i] l[i + 1] < 0) : risesB l = false := by
  unfold risesB
  rw [List.all_eq_false]
  exact ⟨i, List.mem_range.2 (by omega), by rw [upB_at h, decide_eq_false hn]; simp⟩
theorem rises_yes {l : List En} {k : Nat} (h : (List.range k).all (upB l) = true) (hk : l.length ≤ k + 1) : risesB l = true := by
  unfold risesB
  rw [List.all_eq_true] at h ⊢
  intro i hi
  rw [List.mem_range] at hi
  by_cases e : i < k
  · exact h i (List.mem_range.2 e)
  · exact upB_last (by omega)
theorem entriesB_no {l : List En} {k : Nat} (h : k < l.length) (hf : entW (wideOf l) l[k] = false) : entriesB l = false := by
  unfold entriesB
  rw [List.all_eq_false.2 ⟨l[k], List.getElem_mem h, by simp [hf]⟩]
  simp
theorem entriesB_in {l : List En} (h : entriesB l = true) : l.length ≤ 120 ∧ (∀ e ∈ l, entryB e = true ∧ e.key.length = wideOf l) ∧ risesB l = true := by
  unfold entriesB at h
  simp only [Bool.and_eq_true, decide_eq_true_eq, List.all_eq_true, entW] at h
  exact ⟨h.1, h.2.1, h.2.2⟩
theorem wideOf_at {l : List En} (h : 0 < l.length) : wideOf l = l[0].key.length := by
  unfold wideOf
  rw [List.getElem?_eq_getElem h]; rfl
end Go.Proofs.Ytoomnhfmlfmckaa
