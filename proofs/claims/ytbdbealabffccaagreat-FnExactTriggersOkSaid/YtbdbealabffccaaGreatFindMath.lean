/-
  Which rows have a key: as data.
-/
import Derived.Test.YtbdbealabffccaaGreatKeySpec
import Derived.Deep.QuietTactic
import Derived.BigQuiet
namespace Go.Proofs.YtbdbealabffccaaGreat
open Go.RowKit
set_option linter.unusedVariables false
set_option linter.unusedSimpArgs false

theorem below_dN {B : Nat} {w w' : World} (h : Below B w w') (m : Nat) : Below B w (w'.drewN m) := ⟨h.os, h.tape, h.output, h.size, h.block⟩
def eqlV (a b : Vl) : Bool := (a.k == b.k) && ((a.n == b.n) && (a.s.toList == b.s.toList))
def eqlP (p : Vl × Vl) : Bool := eqlV p.1 p.2
def eqlL (a b : List Vl) : Bool := decide (a.length = b.length) && (a.zip b).all eqlP
def hitP (p : Vl × Vl) : Bool := !(p.1.k == 0) && eqlP p
/-- Has a row this key in these columns, none a null? -/
def hitB (cols : List Int) (key : List Vl) (vals : List Vl) : Bool := decide (key.length = cols.length) && ((keyL cols vals).zip key).all hitP
theorem hit_zip : ∀ (l m : List Vl), l.length = m.length → (l.zip m).all hitP = (knownL l && (l.zip m).all eqlP)
  | [], [], _ => rfl
  | [], b :: m, h => by simp at h
  | a :: l, [], h => by simp at h
  | a :: l, b :: m, h => by
    have := hit_zip l m (by simpa using h)
    simp only [List.zip_cons_cons, List.all_cons, this, hitP, knownL]
    cases (!(a.k == 0)) <;> cases eqlP (a, b) <;> simp
theorem hitB_eq (cols : List Int) (key : List Vl) (vals : List Vl) : hitB cols key vals = (knownL (keyL cols vals) && eqlL (keyL cols vals) key) := by
  have hl : (keyL cols vals).length = cols.length := by simp [keyL]
  unfold hitB eqlL
  by_cases h : key.length = cols.length
  · rw [decide_eq_true h, decide_eq_true (by omega), hit_zip _ _ (by omega)]; simp
  · rw [decide_eq_false h, decide_eq_false (by omega)]; simp
/-- The places below k of the rows that have it. -/
def idxK (cols : List Int) (key : List Vl) (rows : List Rw) : Nat → List Nat
  | 0 => []
  | k + 1 => idxK cols key rows k ++ (match rows[k]? with | some r => if hitB cols key r.vals then [k] else [] | none => [])
theorem idxK_yes {cols : List Int} {key : List Vl} {rows : List Rw} {k : Nat} (h : k < rows.length) (hr : hitB cols key rows[k].vals = true) : idxK cols key rows (k + 1) = idxK cols key rows k ++ [k] := by
  rw [idxK, List.getElem?_eq_getElem h]; simp [hr]
theorem idxK_no {cols : List Int} {key : List Vl} {rows : List Rw} {k : Nat} (h : k < rows.length) (hr : hitB cols key rows[k].vals = false) : idxK cols key rows (k + 1) = idxK cols key rows k := by
  rw [idxK, List.getElem?_eq_getElem h]; simp [hr]
theorem idxK_len (cols : List Int) (key : List Vl) (rows : List Rw) : ∀ k, (idxK cols key rows k).length ≤ k
  | 0 => Nat.le_refl _
  | k + 1 => by
    have := idxK_len cols key rows k
    rw [idxK]
    split
    · split <;> simp <;> omega
    · simp; omega
theorem idxK_lt (cols : List Int) (key : List Vl) (rows : List Rw) : ∀ k, ∀ x ∈ idxK cols key rows k, x < k ∧ x < rows.length
  | 0, x, h => by cases h
  | k + 1, x, h => by
    rw [idxK, List.mem_append] at h
    rcases h with h | h
    · have := idxK_lt cols key rows k x h; omega
    · split at h
      · next r hr =>
        split at h
        · have := (List.getElem?_eq_some_iff.1 hr).1; simp at h; omega
        · cases h
      · cases h
def idL (rows : List Rw) (l : List Nat) : List Int := l.map fun i => (rows[i]?.map Rw.id).getD 0
/-- The Ids of the rows that have this key. -/
def findL (cols : List Int) (key : List Vl) (rows : List Rw) : List Int := idL rows (idxK cols key rows rows.length)
theorem findL_len (cols : List Int) (key : List Vl) (rows : List Rw) : (findL cols key rows).length ≤ rows.length := by
  unfold findL idL; rw [List.length_map]; exact idxK_len _ _ _ _
theorem idL_app (rows : List Rw) (l : List Nat) (k : Nat) (h : k < rows.length) : idL rows (l ++ [k]) = idL rows l ++ [rows[k].id] := by
  simp [idL, List.getElem?_eq_getElem h]
theorem zip_take {α β : Type} (a : List α) (b : List β) (k : Nat) (h : k < a.length) (h' : k < b.length) (f : α × β → Bool) : ((a.zip b).take (k + 1)).all f = (((a.zip b).take k).all f && f (a[k], b[k])) := by
  rw [List.take_succ_eq_append_getElem (by rw [List.length_zip]; omega), List.all_append]
  simp
theorem zip_no {α β : Type} {a : List α} {b : List β} {k : Nat} (h : k < a.length) (h' : k < b.length) {f : α × β → Bool} (hf : f (a[k], b[k]) = false) : (a.zip b).all f = false := by
  rw [List.all_eq_false]
  exact ⟨(a[k], b[k]), by rw [List.mem_iff_getElem]; exact ⟨k, by rw [List.length_zip]; omega, by simp⟩, by simp [hf]⟩

end Go.Proofs.YtbdbealabffccaaGreat
