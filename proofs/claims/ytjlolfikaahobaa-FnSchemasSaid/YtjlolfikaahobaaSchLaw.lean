/-
  What a drawn schema's names and references come to (for law FnSchemas).
-/
import Derived.Test.YtjlolfikaahobaaDrawSch5
import Derived.Test.YtjlolfikaahobaaDrawSch3
import Derived.Test.YtjlolfikaahobaaLawInts
import Derived.Test.YtjlolfikaahobaaSchemaImpl2
import Derived.Test.YtjlolfikaahobaaRefersSpec
import Derived.Test.YtjlolfikaahobaaColumns
namespace Go.Proofs.Ytjlolfikaahobaa
open Go.RowKit
set_option linter.unusedVariables false
set_option linter.unusedSimpArgs false

theorem text_eq {a b : ByteArray} (h : (a.toList == b.toList) = true) : a = b := by
  have e : a.toList = b.toList := by simpa using h
  have e2 := congrArg List.toArray e
  apply ByteArray.ext
  have k : ∀ c : ByteArray, c.toList = c.data.toList := fun c => by
    first | rfl | exact ByteArray.toList_eq c | exact ByteArray.toList_eq_toList_data c | simp
  rw [k a, k b] at e
  exact Array.toList_inj.1 e
theorem atGo_at (s : ByteArray) : ∀ (l : List ByteArray) (i : Nat) (k : Nat), atGo s l i = (i + k : Nat) → ∃ h : k < l.length, l[k] = s
  | [], i, k, h => by simp [atGo] at h; omega
  | x :: xs, i, k, h => by
    rw [atGo] at h
    by_cases hx : (x.toList == s.toList) = true
    · rw [if_pos hx] at h
      have : k = 0 := by omega
      subst this
      exact ⟨by simp, text_eq hx⟩
    · rw [if_neg hx] at h
      rcases atGo_rng s xs (i + 1) with h1 | ⟨h1, -⟩
      · omega
      · obtain ⟨m, rfl⟩ : ∃ m, k = m + 1 := ⟨k - 1, by omega⟩
        obtain ⟨h2, h3⟩ := atGo_at s xs (i + 1) m (by rw [h]; omega)
        exact ⟨by simpa using h2, by simpa using h3⟩
theorem atN_at {l : List ByteArray} {s : ByteArray} {k : Nat} (h : atN l s = (k : Int)) : ∃ hk : k < l.length, l[k] = s := atGo_at s l 0 k (by unfold atN at h; simpa using h)
theorem refsK_has (nm : ByteArray) (s : List Tb) : ∀ (k i : Nat) (hi : i < s.length), i < k → k ≤ s.length → (((i : Int) ∈ refsK nm s k) ↔ refB nm s[i] = true)
  | 0, i, hi, h, _ => by omega
  | k + 1, i, hi, h, hk => by
    have hk' : k < s.length := by omega
    by_cases e : i = k
    · subst e
      have hn : (i : Int) ∉ refsK nm s i := fun hm => by have := refsK_lt nm s i _ hm; omega
      cases hr : refB nm s[i]
      · rw [refsK_no hk' hr]; simp [hn]
      · rw [refsK_yes hk' hr]; simp
    · have ih := refsK_has nm s k i hi (by omega) (by omega)
      cases hr : refB nm s[k]
      · rw [refsK_no hk' hr]; exact ih
      · rw [refsK_yes hk' hr, List.mem_append, ih]
        have : ¬ ((i : Int) ∈ [(k : Int)]) := by simp; omega
        simp [this]
theorem refsB_has {nm : ByteArray} {s : List Tb} (hs : schemaB s = true) {i : Nat} (hi : i < s.length) : hasI (refsB nm s) i = refB nm s[i] := by
  rw [Bool.eq_iff_iff, hasI_mem]
  unfold refsB
  rw [if_pos hs]
  exact refsK_has nm s s.length i hi hi (Nat.le_refl _)
theorem refB_take {nm : ByteArray} {t : Tb} {k : Nat} (h : k < t.fks.length) : ((t.fks.take (k + 1)).any fun f => f.table.toList == nm.toList) = ((t.fks.take k).any (fun f => f.table.toList == nm.toList) || (t.fks[k].table.toList == nm.toList)) := any_take_fk t.fks nm k h
theorem refB_all {nm : ByteArray} {t : Tb} : ((t.fks.take t.fks.length).any fun f => f.table.toList == nm.toList) = refB nm t := by rw [List.take_length]; rfl
theorem Blo.below {w w' : World} {g : Nat} {xs : List Value} {T : TypeId} (h : Blo w g xs T) (hb : Below w.heap.size w w') : Blo w' g xs T := (hb.block g h.lt).trans h
theorem szL_len {α : Type} (f : α → Nat) (l : List α) : l.length ≤ szL f l := by unfold szL; omega
end Go.Proofs.Ytjlolfikaahobaa
