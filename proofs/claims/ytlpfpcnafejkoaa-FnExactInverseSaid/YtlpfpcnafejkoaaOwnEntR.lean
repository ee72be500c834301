/-
  Entries that a call made, as the law reads and marks them.
-/
import Derived.Test.YtlpfpcnafejkoaaOwnEnts
namespace Go.Proofs.Ytlpfpcnafejkoaa
open Go.RowKit
set_option linter.unusedVariables false
set_option linter.unusedSimpArgs false

theorem entC_at (vs : List Value) (es : List En) (hl : vs.length = es.length) (i : Nat) (hi : i < es.length) (hi' : i < vs.length) (t : Nat) (ht : t < 2) : (entC vs es)[i * 2 + t]? = [vs[i], .int .i64 es[i].id][t]? := by
  unfold entC
  rw [flat_get (sz := 2) _ i t (by rw [List.length_zipWith]; omega) ht (fun c hc => by
    obtain ⟨j, hj, rfl⟩ := List.mem_iff_getElem.1 hc
    rw [List.getElem_zipWith]; rfl), List.getElem_zipWith]
/-- The cells of an own list of entries. -/
theorem OwnE0.cells {w : World} {base : Nat} {v : Value} {es : List En} {vs : List Value} (h : OwnE0 w base v es vs) :
    (v = .slice none 0 0 ∧ es = []) ∨ ∃ g c, v = .slice (some ⟨g, 0, none⟩) es.length c ∧ es.length ≤ c ∧ c ≤ maxLen ∧ base ≤ g ∧ g < w.heap.size ∧ (∀ off, w.frozen? ⟨g, off, none⟩ = false) ∧ ∀ i (hi : i < es.length) (hi' : i < vs.length), cellsAt w g (0 + i * 2) [vs[i], .int .i64 es[i].id] := by
  rcases h.row.2 with ⟨rfl, hn⟩ | ⟨g, cap, cur, rfl, h1, h2, h3, h4, h5, h6⟩
  · exact Or.inl ⟨rfl, List.length_eq_zero_iff.1 hn⟩
  · refine Or.inr ⟨g, cap, rfl, h3, h4, h1, lt_of_block h2, fun off => by simp [World.frozen?, h2], fun i hi hi' t u hu => ?_⟩
    have ht : t < 2 := by have := (List.getElem?_eq_some_iff.1 hu).1; simpa using this
    have h7 := entC_at vs es h.len i hi hi' t ht
    rw [hu, ← h6, List.getElem?_take, if_pos (by omega)] at h7
    rw [cell_of_row _ _ _ _ _ _ h2, Nat.zero_add, ← Array.getElem?_toList]
    exact h7
theorem OwnE.sl {w : World} {base : Nat} {v : Value} {es : List En} (h : OwnE w base v es) : ∃ A c, v = .slice A es.length c ∧ es.length ≤ c ∧ c ≤ maxLen ∧ Sl EnR 2 (okF base w) w A es.length es := by
  obtain ⟨vs, h⟩ := h
  rcases h.cells with ⟨rfl, rfl⟩ | ⟨g, c, rfl, h1, h2, h3, h4, h5, h6⟩
  · exact ⟨none, 0, rfl, Nat.le_refl _, by simp [maxLen], rfl, fun hn => by simp at hn⟩
  · refine ⟨_, c, rfl, h1, h2, rfl, fun hn => ⟨g, 0, rfl, ⟨h3, h4, h5⟩, fun i hi => ?_⟩⟩
    have hi' : i < vs.length := by rw [h.len]; exact hi
    obtain ⟨A', c', e, k1, k2, k3⟩ := OwnG.sl (f := Vl.cells) (sz := 3) (fun _ => rfl) (h.key i hi hi')
    have h7 := h6 i hi hi'
    rw [e] at h7
    exact ⟨_, rfl, ⟨A', _, c', rfl, k3, k1⟩, h7⟩

def En.marks (e : En) : Nat := e.key.length * 3 + 1
theorem OwnK.fls {w : World} {base : Nat} {v : Value} {xs : List Vl} (h : OwnK w base v xs) (hn : xs.length ≤ 1048576) : ∃ A c, v = .slice A xs.length c ∧ FlS 3 w A xs.length (blk v) := by
  obtain ⟨A, c, rfl, k1, k2, k3⟩ := OwnG.sl (f := Vl.cells) (sz := 3) (fun _ => rfl) h
  refine ⟨A, c, rfl, ?_, hn, fun b hb => ?_, xs.map fun _ => 3, ?_⟩
  · cases A <;> simp [blk, Value.ownBlock]
  · cases A with
    | none => simp [blk, Value.ownBlock] at hb
    | some a =>
      rcases h.2 with ⟨e, -⟩ | ⟨g, cap, cur, e, h1, h2, -⟩
      · cases e
      · cases e
        obtain rfl : b = g := by simpa [blk, Value.ownBlock] using hb
        exact ⟨lt_of_block h2, fun off => by simp [World.frozen?, h2]⟩
  · have k4 : Sl VlR 3 (· ∈ blk (.slice A xs.length c)) w A xs.length xs := ⟨rfl, fun hn => by
      obtain ⟨b, off, e, -, hi⟩ := k3.2 hn
      subst e
      exact ⟨b, off, rfl, by simp [blk, Value.ownBlock], fun i hlt => hi i hlt⟩⟩
    exact Sl.toSh k4 Vl.toSh fun _ _ => trivial
theorem OwnE.sh {w : World} {base : Nat} {v : Value} {es : List En} (h : OwnE w base v es) (hn : es.length ≤ 1048576) (hk : ∀ e ∈ es, e.key.length ≤ 1048576) :
    ∃ A c bs, v = .slice A es.length c ∧ ShL EnS 2 w A es.length (es.map En.marks) bs ∧ ∀ b ∈ bs, base ≤ b := by
  obtain ⟨vs, h⟩ := h
  rcases h.cells with ⟨rfl, rfl⟩ | ⟨g, c, rfl, h1, h2, h3, h4, h5, h6⟩
  · exact ⟨none, 0, [], rfl, ⟨hn, Or.inl ⟨rfl, rfl, rfl⟩⟩, fun b hb => by simp at hb⟩
  · have hg : g ∉ vs.flatMap blk := fun hh => by
      obtain ⟨u, hu, hbu⟩ := List.mem_flatMap.1 hh
      obtain ⟨i, hi, rfl⟩ := List.mem_iff_getElem.1 hu
      have := OwnK.ne h.row (h.key i (by rw [← h.len]; exact hi) hi)
      have hb' : vs[i].ownBlock = some g := by simpa [blk] using hbu
      rcases this with e | e
      · rw [e] at hb'; cases hb'
      · exact e hb'
    refine ⟨_, c, g :: vs.flatMap blk, rfl, ⟨hn, Or.inr ⟨g, 0, vs.map blk, rfl, rfl, by simp, by simp [h.len], List.nodup_cons.2 ⟨hg, h.apart⟩, h4, h5, fun i hi => ?_⟩⟩, fun b hb => ?_⟩
    · have hi' : i < vs.length := by rw [h.len]; exact hi
      obtain ⟨A', c', e, k1⟩ := OwnK.fls (h.key i hi hi') (hk _ (List.getElem_mem hi))
      have h7 := h6 i hi hi'
      refine ⟨_, rfl, ⟨A', es[i].key.length, c', es[i].id, ?_, ?_, ?_⟩, h7⟩
      · rw [e]
      · rw [List.getD_eq_getElem?_getD, List.getElem?_map, List.getElem?_eq_getElem hi]; rfl
      · rw [List.getD_eq_getElem?_getD, List.getElem?_map, List.getElem?_eq_getElem hi']
        exact k1
    · rcases List.mem_cons.1 hb with rfl | hb
      · exact h3
      · obtain ⟨u, hu, hbu⟩ := List.mem_flatMap.1 hb
        obtain ⟨i, hi, rfl⟩ := List.mem_iff_getElem.1 hu
        exact (OwnG.block_lt (h.key i (by rw [← h.len]; exact hi) hi) b (by simpa [blk] using hbu)).1

end Go.Proofs.Ytlpfpcnafejkoaa
