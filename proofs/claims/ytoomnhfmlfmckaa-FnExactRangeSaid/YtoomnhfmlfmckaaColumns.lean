/-
  Lists of columns: which are right, in the model (by a search) and in the program (by a map).
-/
import Derived.Test.YtoomnhfmlfmckaaNames
import Derived.IntWalk
namespace Go.Proofs.Ytoomnhfmlfmckaa
open Go.RowKit Go.Maps
set_option linter.unusedVariables false

theorem Sl.take {α : Type} {R : Rd α} {sz : Nat} {ok : Nat → Prop} {w : World} {A : Option Addr} {n m : Nat} {ds : List α} (h : Sl R sz ok w A n ds) (hm : m ≤ n) : Sl R sz ok w A m (ds.take m) := by
  have hl := h.1
  refine ⟨by simp; omega, fun h0 => ?_⟩
  obtain ⟨b, off, e, hb, hi⟩ := h.2 (by omega)
  refine ⟨b, off, e, hb, fun i hlt => ?_⟩
  simp only [List.length_take] at hlt
  obtain ⟨cs, h1, h2, h3⟩ := hi i (by omega)
  exact ⟨cs, h1, by rw [List.getElem_take]; exact h2, h3⟩

theorem contains_take (l : List Int) (x : Int) (k : Nat) (h : k < l.length) : hasB (l.take (k + 1)) x = (hasB (l.take k) x || l[k] == x) := by
  unfold hasB
  rw [List.take_succ_eq_append_getElem h, List.contains_eq_any_beq, List.any_append, List.contains_eq_any_beq]
  simp [Bool.beq_comm]

theorem Sl.drewN {α : Type} {R : Rd α} (hR : Stays R) {sz : Nat} {ok : Nat → Prop} {w : World} {A : Option Addr} {n : Nat} {ds : List α} (h : Sl R sz ok w A n ds) (m : Nat) : Sl R sz ok (w.drewN m) A n ds := h.stays hR (fun _ h => h) fun _ _ _ h => h
theorem below_drewN {B : Nat} {w w' : World} (h : Below B w w') (m : Nat) : Below B w (w'.drewN m) := ⟨h.os, h.tape, h.output, h.size, h.block⟩
theorem specInV {n lo hi : Int} {b : Bool} (h : (decide (lo ≤ n) && decide (n ≤ hi)) = b) (w : World) :
    Calls Try.prog 47 #[.int .i64 n, .int .i64 lo, .int .i64 hi] w fun e w' => e = .returned (.bool b) ∧ w' = w := (specIn n lo hi w).mono fun _ _ ⟨h1, h2⟩ => ⟨by rw [h1, h], h2.symm⟩
/-- Block b is a map that says which numbers have been met. -/
def MetIn (w : World) (b n : Nat) (l : List Int) : Prop := ∃ D : DataW Unit, w.ownsMap Try.prog 2 (plainElem Try.prog 4) b n D ∧ IsMap D ∧ ∀ x : Int, D.atKey (.int .i64 x) (.lit (.bool false)) = .lit (.bool (hasB l x))
theorem MetIn.made (w : World) : MetIn (w.alloc (.map #[] 0)) w.heap.size 0 [] := ⟨.map [], World.ownsMap_made _ _ _ _, isMap_empty, fun x => by simp [DataW.atKey, hasB]⟩
theorem lawI : Keyed Try.prog 2 := int_keyed Try.underlying2
theorem zeroB' (w : World) : (zeroValue 4).run Try.prog w = .ok (.bool false) w := by kernel_rfl
theorem plainElem_bool_inv {P : Program} {e : TypeId} (he : P.underlying e = some .bool) {v : Value} {z : DataW Unit × List MemPlace} (h : plainElem P e v = some z) : ∃ x, v = .bool x ∧ z = (.lit (.bool x), []) := by
  unfold plainElem at h
  rw [he] at h
  cases v <;> simp at h
  exact ⟨_, rfl, h.symm⟩
theorem IsMap.key_int (x : Int) : WideAt.IsKeyLit (.int .i64 x) := by first | trivial | (simp [WideAt.IsKeyLit]) | (unfold WideAt.IsKeyLit; trivial)

end Go.Proofs.Ytoomnhfmlfmckaa
