/-
  Lists of entries that a call made of its own: each key in a block of its own.
-/
import Derived.Test.YtlpfpcnafejkoaaOwnEnt
import Derived.Test.YtlpfpcnafejkoaaOwnVals
namespace Go.Proofs.Ytlpfpcnafejkoaa
open Go.RowKit
set_option linter.unusedVariables false
set_option linter.unusedSimpArgs false

/-- The cells of entries whose keys are held by the values vs. -/
def entC (vs : List Value) (es : List En) : List Value := (List.zipWith (fun v (e : En) => [v, .int .i64 e.id]) vs es).flatten
/-- A key of the call's own. -/
def OwnK (w : World) (base : Nat) (v : Value) (xs : List Vl) : Prop := OwnG 57 3 Vl.cells w base v xs
/-- The block of a list, none for an empty one without memory. -/
def blk (v : Value) : List Nat := v.ownBlock.toList
/-- A list of entries of the call's own. -/
structure OwnE0 (w : World) (base : Nat) (v : Value) (es : List En) (vs : List Value) : Prop where
  len : vs.length = es.length
  row : w.ownsRow base 42 2 v es.length (entC vs es)
  key : ∀ i (h : i < es.length) (h' : i < vs.length), OwnK w base vs[i] es[i].key
  apart : (vs.flatMap blk).Nodup
def OwnE (w : World) (base : Nat) (v : Value) (es : List En) : Prop := ∃ vs, OwnE0 w base v es vs

theorem OwnE.nil (w : World) (base : Nat) : OwnE w base (.slice none 0 0) [] := ⟨[], rfl, World.ownsRow_nil _ _ _ _, fun i h => by simp at h, by simp⟩
theorem OwnE.lit (w : World) {base : Nat} (hb : base ≤ w.heap.size) : OwnE (w.alloc (.cells #[] 42)) base (.slice (some ⟨w.heap.size, 0, none⟩) 0 0) [] :=
  ⟨[], rfl, ⟨by simp [entC], .inr ⟨w.heap.size, 0, #[], rfl, hb, Go.heap_alloc_last w _, Nat.le_refl _, by simp [maxLen], by simp, by simp [entC]⟩⟩, fun i h => by simp at h, by simp⟩
theorem ownsRow_below {w w' : World} {base : Nat} {T : TypeId} {sz : Nat} {v : Value} {n : Nat} {xs : List Value} (h : w.ownsRow base T sz v n xs) (hb : Below w.heap.size w w') : w'.ownsRow base T sz v n xs := by
  refine ⟨h.1, ?_⟩
  rcases h.2 with h | ⟨g, cap, cur, rfl, h1, h2, h3⟩
  · exact .inl h
  · exact .inr ⟨g, cap, cur, rfl, h1, (hb.block g (lt_of_block h2)).trans h2, h3⟩
theorem OwnE.below {w w' : World} {base : Nat} {v : Value} {es : List En} (h : OwnE w base v es) (hb : Below w.heap.size w w') : OwnE w' base v es := by
  obtain ⟨vs, h⟩ := h
  exact ⟨vs, h.len, ownsRow_below h.row hb, fun i hi hi' => OwnG.below (h.key i hi hi') hb, h.apart⟩
/-- The block of a key isn't that of a list of entries. -/
theorem OwnK.ne {w : World} {base base' : Nat} {v k : Value} {n : Nat} {cs : List Value} {xs : List Vl} (h : w.ownsRow base 42 2 v n cs) (hk : OwnK w base' k xs) : k.ownBlock = none ∨ k.ownBlock ≠ v.ownBlock := by
  rcases hk.2 with ⟨rfl, -⟩ | ⟨g, cap, cur, rfl, h1, h2, -⟩
  · exact Or.inl rfl
  · refine Or.inr fun e => ?_
    rcases h.2 with ⟨rfl, -⟩ | ⟨g', cap', cur', rfl, k1, k2, -⟩
    · simp [Value.ownBlock] at e
    · simp [Value.ownBlock] at e
      subst e
      rw [h2] at k2
      injection k2 with k2
      injection k2 with _ k3
      exact absurd k3 (by decide)
/-- What append of one entry leaves: its key lies in a block that no other key has. -/
theorem OwnE0.app {w w' : World} {base : Nat} {v v' k : Value} {es : List En} {vs : List Value} {x : En} {o : Obj} (h : OwnE0 w base v es vs) (hb : base ≤ w.heap.size) (hk : OwnK w base k x.key) (hn : ∀ b ∈ blk k, b ∉ vs.flatMap blk)
    (h' : w'.ownsRow base 42 2 v' (es.length + 1) (entC vs es ++ [k, .int .i64 x.id])) (hg : (w.alloc o).grownBy w' v.ownBlock) : OwnE0 w' base v' (es ++ [x]) (vs ++ [k]) := by
  have hz : entC (vs ++ [k]) (es ++ [x]) = entC vs es ++ [k, .int .i64 x.id] := by
    unfold entC
    rw [List.zipWith_append h.len]
    simp
  have hkk : ∀ (u : Value) (xs : List Vl), OwnK w base u xs → OwnK w' base u xs := fun u xs hu => World.ownsRow.kept (World.ownsRow.alloc hu o) hg (OwnK.ne h.row hu)
  refine ⟨by simp [h.len], by rw [List.length_append, hz]; exact h', fun i hi hi' => ?_, ?_⟩
  · by_cases e : i < es.length
    · have e' : i < vs.length := by rw [h.len]; exact e
      rw [List.getElem_append_left e, List.getElem_append_left e']
      exact hkk _ _ (h.key i e e')
    · simp only [List.length_append, List.length_cons, List.length_nil] at hi
      obtain rfl : i = es.length := by omega
      rw [List.getElem_append_right (Nat.le_refl _), List.getElem_append_right (Nat.le_of_eq h.len)]
      simpa using hkk _ _ hk
  · rw [List.flatMap_append]
    refine List.nodup_append.2 ⟨h.apart, ?_, fun a ha b hb => ?_⟩
    · have hs : ∀ a : Option Nat, a.toList.Nodup := fun a => by cases a <;> simp
      simpa [blk] using hs k.ownBlock
    · rintro rfl
      exact hn a (by simpa using hb) ha

end Go.Proofs.Ytlpfpcnafejkoaa
