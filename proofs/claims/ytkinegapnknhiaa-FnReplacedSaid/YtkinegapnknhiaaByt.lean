/-
  Slices of bytes that a call has made and that hold a text: out of a text, into a text, with a text behind.
-/
import Derived.Test.YtkinegapnknhiaaOwnG
import Derived.Lib.FrozenHead
import Derived.Lib.ConvBytes
import Derived.Laws.BytesArg
import Derived.Laws.IdiomStrings
namespace Go.Proofs.Ytkinegapnknhiaa
open Go.RowKit
set_option linter.unusedVariables false
set_option linter.unusedSimpArgs false

/-- v is a slice of bytes, in a block from 'base' on, that holds the text d; the block may be the row of a conversion. -/
def Byt (w : World) (base : Nat) (v : Value) (d : ByteArray) : Prop :=
  (v = .slice none 0 0 ∧ d.size = 0) ∨
  ∃ (g cap : Nat) (cur : Array Value) (fz : Nat × Nat), v = .slice (some ⟨g, 0, none⟩) d.size cap ∧ base ≤ g ∧ w.heap[g]? = some (.cells cur 5 fz) ∧ (fz.2 = 0 ∨ cur.size ≤ fz.1) ∧ d.size ≤ cap ∧ cap ≤ maxLen ∧ cur.size = cap ∧ cur.toList.take d.size = Lib.strCells d

section
variable {w w' : World} {base : Nat} {v : Value} {d : ByteArray}
theorem Byt.lt (h : Byt w base v d) : ∀ k, v.ownBlock = some k → base ≤ k ∧ k < w.heap.size := by
  intro k hk
  rcases h with ⟨rfl, -⟩ | ⟨g, cap, cur, fz, rfl, hb, hg, -⟩
  · cases hk
  · have e : g = k := by simpa [Value.ownBlock] using hk
    subst e
    exact ⟨hb, (Array.getElem?_eq_some_iff.1 hg).1⟩
theorem Byt.kept {row : Option Nat} (h : Byt w base v d) (hg : w.grownBy w' row) (hne : v.ownBlock = none ∨ v.ownBlock ≠ row) : Byt w' base v d := by
  rcases h with h | ⟨g, cap, cur, fz, rfl, hb, hgg, rest⟩
  · exact .inl h
  · refine .inr ⟨g, cap, cur, fz, rfl, hb, ?_, rest⟩
    rw [hg.block g (Array.getElem?_eq_some_iff.1 hgg).1 (by simpa [Value.ownBlock] using hne)]
    exact hgg
theorem Byt.below (h : Byt w base v d) (hb : Below w.heap.size w w') : Byt w' base v d := by
  rcases h with h | ⟨g, cap, cur, fz, rfl, hb', hgg, rest⟩
  · exact .inl h
  · exact .inr ⟨g, cap, cur, fz, rfl, hb', (hb.block g (Array.getElem?_eq_some_iff.1 hgg).1).trans hgg, rest⟩
theorem strCells_at (d : ByteArray) (j : Nat) (hj : j < d.data.toList.length) : (Lib.strCells d)[j]? = some (.int .u8 (d.data.toList[j].toNat : Int)) := by
  unfold Lib.strCells
  rw [List.getElem?_map, List.getElem?_eq_getElem hj]; rfl
theorem Byt.cells {g n cap : Nat} (h : Byt w base (.slice (some ⟨g, 0, none⟩) n cap) d) : n = d.size ∧ ∀ (j : Nat) (u : Value), (Lib.strCells d)[j]? = some u → w.cell? ((⟨g, 0, none⟩ : Addr).add j) = some u := by
  rcases h with ⟨h, -⟩ | ⟨g', cap', cur, fz, e, hb, hgg, -, -, -, -, ht⟩
  · cases h
  · injection e with e1 e2 e3
    injection e1 with e1
    injection e1 with e1
    subst e1 e2
    refine ⟨rfl, fun j u hu => ?_⟩
    rw [addr_add, Nat.zero_add, cell_of_row _ _ _ _ _ _ hgg]
    rw [← ht, List.getElem?_take] at hu
    split at hu
    · rw [← Array.getElem?_toList]; exact hu
    · cases hu
theorem Byt.conv (h : Byt w base v d) : (convert 22 9 v).run Try.prog w = .ok (.string d) w := by
  have h' := h
  rcases h with ⟨rfl, h0⟩ | ⟨g, cap, cur, fz, rfl, -⟩
  · have e := run_convert_bytes_nil w 22 5 Try.underlying22 Try.underlying5 0 0 9 Try.underlying9
    have hd : d = ByteArray.empty := by
      cases d with
      | mk a => have : a = #[] := Array.eq_empty_of_size_eq_zero h0; subst this; rfl
    rw [hd]; exact e
  · obtain ⟨-, hc⟩ := h'.cells
    have e := run_convert_bytes_back (P := Try.prog) w 22 9 5 ⟨g, 0, none⟩ cap d.data.toList Try.underlying22 Try.underlying5 Try.underlying9 (fun j hj => hc j _ (strCells_at d j hj))
    have hl : d.data.toList.length = d.size := by simp
    rw [hl] at e
    rw [e, Array.toArray_toList]
theorem info8c : (Try.prog.info? 5).map (fun i => (i.zero, i.size, i.bytes)) = some (some (.int .u8 0), 1, 1) := by kernel_rfl
theorem info8 : ∃ i, Try.prog.info? 5 = some i ∧ i.zero = some (.int .u8 0) ∧ i.size = 1 ∧ i.bytes = 1 := by
  have h := info8c
  cases e : Try.prog.info? 5 with
  | none => rw [e] at h; cases h
  | some i => rw [e] at h; simp only [Option.map_some, Option.some.injEq, Prod.mk.injEq] at h; exact ⟨i, rfl, h.1, h.2.1, h.2.2⟩
/-- '[]byte(s)'. -/
theorem Byt.ofString (w : World) {base : Nat} (s : ByteArray) (hs : s.size ≤ maxLen) (hb : base ≤ w.heap.size) :
    ∃ v w', (convert 9 22 (.string s)).run Try.prog w = .ok v w' ∧ Byt w' base v s ∧ w.grownBy w' none ∧ v.ownBlock = some w.heap.size := by
  refine ⟨_, _, Lib.run_convert_string_bytes w 9 22 5 s Try.underlying9 Try.underlying22 Try.underlying5, ?_, ?_, rfl⟩
  · refine .inr ⟨w.heap.size, _, _, _, rfl, hb, Lib.bytesWorld_at_new w _ s, .inr (Nat.le_refl _), grownCap_ge _ _ _ _, grownCap_le_maxLen _ _ _ _ hs, ?_, ?_⟩
    · have := grownCap_ge w s.size 0 5
      simp [Lib.bytesCells]; omega
    · simp only [Lib.bytesCells, Array.toList_append, Array.toList_map, Lib.strCells]
      have : (d : ByteArray) → d.data.toList.length = d.size := fun d => by simp
      rw [List.take_append_of_le_length (by simp), List.take_of_length_le (by simp)]
  · refine ⟨rfl, rfl, rfl, ?_, fun k hk _ => Lib.bytesWorld_at_old w _ s k hk⟩
    rw [Lib.bytesWorld_size]; omega

theorem run_storeZ (P : Program) (g o : Nat) (t : TypeId) (fz : Nat × Nat) : ∀ (vs : List Value) (i : Nat) (cur : Array Value) (w : World), w.heap[g]? = some (.cells cur t fz) → (fz.2 = 0 ∨ cur.size ≤ fz.1) → o + i + vs.length ≤ cur.size → (∀ v ∈ vs, v.oneCell' = true) →
    (storeCells ⟨g, o, none⟩ vs i).run P w = .ok () (w.setRow g (cur.toList.take (o + i) ++ vs ++ cur.toList.drop (o + i + vs.length)).toArray)
  | [], i, cur, w, hg, _, _, _ => by
    simp only [storeCells, List.append_nil, List.length_nil, Nat.add_zero, List.take_append_drop, Array.toArray_toList]
    rw [setRow_self w g cur t fz hg]
    rfl
  | v :: rest, i, cur, w, hg, hz, hl, h1 => by
    have hi : o + i < cur.size := by simp at hl; omega
    have hcell : w.cell? ⟨g, o + i, none⟩ = some cur[o + i] := by simp [World.cell?, hg, hi]
    have hfro : w.frozen? ⟨g, o + i, none⟩ = false := by
      obtain ⟨lo, hi'⟩ := fz
      simp only [World.frozen?, hg, Bool.and_eq_false_iff, decide_eq_false_iff_not]
      simp only at hz
      omega
    have hst : (store ((⟨g, o, none⟩ : Addr).add i) v).run P w = .ok () (w.setRow g (cur.setIfInBounds (o + i) v)) := by
      rw [addr_add, run_store P w _ v _ (h1 v (by simp)), hcell]
      simp [hfro, setCell_eq_setRow w g (o + i) cur t fz v hg]
    have ih := run_storeZ P g o t fz rest (i + 1) (cur.setIfInBounds (o + i) v) (w.setRow g (cur.setIfInBounds (o + i) v)) (setRow_heap w g cur _ t _ hg) (by simpa using hz) (by simp at hl ⊢; omega) (fun x hx => h1 x (by simp [hx]))
    simp only [storeCells, Sem.run_bind, hst, Result.andThen_ok, ih, setRow_setRow]
    congr 3
    have e := list_seg_step cur.toList (o + i) v rest (by simp at hl ⊢; omega)
    simpa [Array.toList_setIfInBounds, Nat.add_assoc] using e

theorem strCells_app (a b : ByteArray) : Lib.strCells (a ++ b) = Lib.strCells a ++ Lib.strCells b := by simp [Lib.strCells]
/-- 'append(v, s...)', s a text. -/
theorem Byt.append (h : Byt w base v d) (s : ByteArray) (ty : TypeId) (hs : d.size + s.size ≤ 1073741824) (hbase : base ≤ w.heap.size) :
    ∃ v' w', (Builtin.append_ #[22, 9] ty #[v, .string s]).run Try.prog w = .ok v' w' ∧ Byt w' base v' (d ++ s) ∧ w.grownBy w' v.ownBlock ∧ (v'.ownBlock = none ∨ v'.ownBlock = v.ownBlock ∨ v'.ownBlock = some w.heap.size) := by
  obtain ⟨i, hi, hz, hsize, hby⟩ := info8
  have h63 : d.size + s.size ≤ maxLen := by unfold maxLen; omega
  have hsz : (d ++ s).size = d.size + s.size := by simp
  have grown : ∀ (xs : List Value) (n old : Nat), xs = Lib.strCells d → n = d.size + s.size → ∀ (row : Option Nat),
      Byt (w.drew.alloc (.cells (xs.toArray ++ (Lib.strCells s).toArray ++ Builtin.zeroCells (Value.int .u8 0).cells (grownCap w n old 5 - n)) 5)) base (.slice (some ⟨w.heap.size, 0, none⟩) n (grownCap w n old 5)) (d ++ s) ∧
      w.grownBy (w.drew.alloc (.cells (xs.toArray ++ (Lib.strCells s).toArray ++ Builtin.zeroCells (Value.int .u8 0).cells (grownCap w n old 5 - n)) 5)) row := by
    intro xs n old hx hn row
    subst hx hn
    have hge := grownCap_ge w (d.size + s.size) old 5
    have hcm : grownCap w (d.size + s.size) old 5 ≤ maxLen := grownCap_le_maxLen w (d.size + s.size) old _ h63
    refine ⟨.inr ⟨w.heap.size, _, _, (0, 0), by rw [hsz], hbase, heap_alloc_new w.drew _, .inl rfl, by rw [hsz]; exact hge, hcm, ?_, ?_⟩, ⟨rfl, rfl, rfl, by simp, fun k hk _ => Below.heap_alloc w.drew _ k hk⟩⟩
    · have hz1 : (Value.int IntKind.u8 0).cells.size = 1 := rfl
      simp only [Array.size_append, List.size_toArray, size_zeroCells, hz1, Lib.strCells_length]
      omega
    · have hl : (Lib.strCells d ++ Lib.strCells s).length = d.size + s.size := by rw [List.length_append, Lib.strCells_length, Lib.strCells_length]
      simp only [Array.toList_append, List.append_assoc]
      rw [← List.append_assoc, hsz, ← hl, strCells_app]
      exact List.take_left
  rcases h with ⟨rfl, h0⟩ | ⟨g, cap, cur, fz, rfl, hbg, hg, hfz, hnc, hcm, hcs, htake⟩
  · have hx : Lib.strCells d = [] := List.eq_nil_of_length_eq_zero (by rw [Lib.strCells_length]; exact h0)
    by_cases hm : s.size = 0
    · have hn : Lib.strCells s = [] := List.eq_nil_of_length_eq_zero (by rw [Lib.strCells_length]; exact hm)
      refine ⟨.slice none 0 0, w, ?_, .inl ⟨rfl, by rw [hsz]; omega⟩, ⟨rfl, rfl, rfl, Nat.le_refl _, fun _ _ _ => rfl⟩, .inl rfl⟩
      have hf := Lib.run_firstCells_string (P := Try.prog) w 1 s
      rw [hm] at hf
      simp [Builtin.append_, run_underlying Try.underlying22, run_underlying Try.underlying9, sizeOf, typeInfo, hi, hsize, Builtin.lenOf, hm, hf]
    · have hr := run_append_nil_string (P := Try.prog) w 22 9 ty 5 i (.int .u8 0) Try.underlying22 Try.underlying9 hi hz s (by omega) (by omega) (by rw [hby]; omega)
      have hgr := grown [] s.size 0 hx.symm (by omega) (Value.ownBlock (.slice none 0 0))
      simp only [List.nil_append, Array.empty_append, Array.append_empty] at hgr
      have e1 : (s.data.map fun b => Value.int .u8 b.toNat) = (Lib.strCells s).toArray := by
        apply Array.ext'
        simp [Lib.strCells]
      rw [e1] at hr
      exact ⟨_, _, hr, hgr.1, hgr.2, .inr (.inr rfl)⟩
  · by_cases hroom : d.size + s.size ≤ cap
    · have hf := Lib.run_firstCells_string (P := Try.prog) w 1 s
      have hst := run_storeZ Try.prog g d.size 5 fz (Lib.strCells s) 0 cur w hg hfz (by simp [Lib.strCells_length]; omega) (Lib.strCells_oneCell s)
      simp only [Nat.add_zero, Lib.strCells_length] at hst
      refine ⟨.slice (some ⟨g, 0, none⟩) (d.size + s.size) cap, w.setRow g (cur.toList.take d.size ++ Lib.strCells s ++ cur.toList.drop (d.size + s.size)).toArray, ?_, .inr ⟨g, cap, _, fz, by rw [hsz], hbg, setRow_heap w g cur _ 5 _ hg, ?_, by rw [hsz]; exact hroom, hcm, ?_, ?_⟩, ⟨rfl, rfl, rfl, by simp, fun k _ hk => setRow_other w g k _ (fun e => hk (by simp [Value.ownBlock, e]))⟩, .inr (.inl rfl)⟩
      · simp [Builtin.append_, run_underlying Try.underlying22, run_underlying Try.underlying9, sizeOf, typeInfo, hi, hsize, Builtin.lenOf, hroom, hf, Addr.add_lit, hst]
      · rcases hfz with h1 | h1
        · exact .inl h1
        · refine .inr ?_
          simp only [List.size_toArray, List.length_append, List.length_take, List.length_drop, Array.length_toList, Lib.strCells_length]
          omega
      · simp only [List.size_toArray, List.length_append, List.length_take, List.length_drop, Array.length_toList, Lib.strCells_length]
        omega
      · have hl : (Lib.strCells d ++ Lib.strCells s).length = d.size + s.size := by rw [List.length_append, Lib.strCells_length, Lib.strCells_length]
        rw [htake, hsz, ← hl, strCells_app]
        exact List.take_left
    · have holds : ∀ j u, (Lib.strCells d)[j]? = some u → w.cell? ((⟨g, 0, none⟩ : Addr).add j) = some u := (Byt.cells (base := base) (n := d.size) (cap := cap) (.inr ⟨g, cap, cur, fz, rfl, hbg, hg, hfz, hnc, hcm, hcs, htake⟩)).2
      have hr := Lib.run_append_grow_string (P := Try.prog) w 22 9 ty 5 i (.int .u8 0) Try.underlying22 Try.underlying9 hi hz ⟨g, 0, none⟩ d.size cap (Lib.strCells d) (by rw [hsize, Lib.strCells_length]; omega) holds s (by omega) (by omega) (by rw [hby]; exact growslice_fits (by omega) (by omega))
      have hgr := grown (Lib.strCells d) (d.size + s.size) cap rfl rfl (Value.ownBlock (.slice (some ⟨g, 0, none⟩) d.size cap))
      exact ⟨_, _, hr, hgr.1, hgr.2, .inr (.inr rfl)⟩
end
end Go.Proofs.Ytkinegapnknhiaa
