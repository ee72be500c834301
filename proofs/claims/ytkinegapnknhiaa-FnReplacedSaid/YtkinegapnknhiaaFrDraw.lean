/-
  Contracts of the functions that draw texts out of a code: text, bytes.
-/
import Derived.Test.YtkinegapnknhiaaDraws
import Derived.Test.YtkinegapnknhiaaFrameTexts
import Derived.Test.YtkinegapnknhiaaRows
import Derived.Maps.AppendAt
import Derived.Laws.BytesArg
import Derived.Deep.RegionWith
namespace Go.Proofs.Ytkinegapnknhiaa
open Go.RowKit
set_option linter.unusedVariables false
set_option linter.unusedSimpArgs false

/-- A text of at most m bytes. -/
def isText (m : Nat) (v : Value) (_ : World) : Prop := ∃ s : ByteArray, v = .string s ∧ s.size ≤ m
theorem five {x n : Int} (h0 : 0 ≤ x) (h1 : x = 0 ∨ x < n) (hn : n = 5) : x = 0 ∨ x = 1 ∨ x = 2 ∨ x = 3 ∨ x = 4 := by omega

set_option maxHeartbeats 400000 in
theorem rdText (w : World) (R : Nat) (a : Option Addr) (len cap : Nat) (zs : List Int) (h : Rdr w R a len cap zs) :
    Calls Try.prog 61 #[.pointer (some ⟨R, 0, none⟩)] w (Drew R a len cap zs (isText 3) w) := by
  have hlt : R < w.heap.size := cell_lt h.code
  go_enter Try.func61, Try.ntmps61
  go_wp2_with fail
  refine (rdBelow _ _ R a len cap zs (h.alloc _)).mono ?_
  rintro e w2 ⟨v, rfl, ⟨y, rfl, y0, y1⟩, hb2, hr2⟩
  have hb3 := ((But.refl R w).alloc _).trans hb2
  rcases five y0 y1 rfl with rfl | rfl | rfl | rfl | rfl
  · have c := new_cell hb2 hlt 0 (by simp)
    go_wp2_with fail
    go_ret
    exact ⟨_, rfl, ⟨_, rfl, by decide⟩, hb3, hr2⟩
  · have c := new_cell hb2 hlt 1 (by simp)
    go_wp2_with fail
    go_ret
    exact ⟨_, rfl, ⟨_, rfl, by decide⟩, hb3, hr2⟩
  · have c := new_cell hb2 hlt 2 (by simp)
    go_wp2_with fail
    go_ret
    exact ⟨_, rfl, ⟨_, rfl, by decide⟩, hb3, hr2⟩
  · have c := new_cell hb2 hlt 3 (by simp)
    go_wp2_with fail
    go_ret
    exact ⟨_, rfl, ⟨_, rfl, by decide⟩, hb3, hr2⟩
  · have c := new_cell hb2 hlt 4 (by simp)
    go_wp2_with fail
    go_ret
    exact ⟨_, rfl, ⟨_, rfl, by decide⟩, hb3, hr2⟩

theorem infoByte : (Try.prog.info? 5).map (fun i => (i.zero, i.size, i.bytes)) = some (some (.int .u8 0), 1, 1) := by kernel_rfl
/-- v is a slice of the call's own that holds the bytes xs. -/
def OwnB (w : World) (base : Nat) (v : Value) (xs : List Int) : Prop := w.ownsRow base 5 1 v xs.length (xs.map (Value.int .u8))
theorem OwnB.but {w w' : World} {base R : Nat} {v : Value} {xs : List Int} (h : OwnB w base v xs) (hb : But R w w') (hR : R < base) : OwnB w' base v xs := by
  refine ⟨h.1, ?_⟩
  rcases h.2 with h | ⟨g, cap, cur, rfl, h1, h2, h3⟩
  · exact .inl h
  · exact .inr ⟨g, cap, cur, rfl, h1, (hb.block g (lt_of_block h2) (by omega)).trans h2, h3⟩
theorem OwnB.lit (w : World) {base : Nat} (hb : base ≤ w.heap.size) : OwnB (w.alloc (.cells #[] 5)) base (.slice (some ⟨w.heap.size, 0, none⟩) 0 0) [] :=
  ⟨rfl, .inr ⟨w.heap.size, 0, #[], rfl, hb, Go.heap_alloc_last w _, Nat.le_refl _, by simp [maxLen], rfl, rfl⟩⟩
theorem OwnB.block_lt {w : World} {base : Nat} {v : Value} {xs : List Int} (h : OwnB w base v xs) : ∀ k, v.ownBlock = some k → base ≤ k ∧ k < w.heap.size := World.ownsRow.lt h
theorem OwnB.app {w w' : World} {base : Nat} {v v' : Value} {xs : List Int} {x : Int} {o : Obj} (h : OwnB w base v xs) (hb : base ≤ w.heap.size)
    (h' : w'.ownsRow base 5 1 v' (xs.length + 1) (xs.map (Value.int .u8) ++ [.int .u8 x])) (hg : (w.alloc o).grownBy w' v.ownBlock) : OwnB w' base v' (xs ++ [x]) ∧ Below base w w' :=
  ⟨by unfold OwnB; rw [List.length_append, List.map_append]; exact h', ((Below.refl base w).alloc hb o).grown hg (by simp; omega) fun k hk => (h.block_lt k hk).1⟩
theorem OwnB.conv {w : World} {base : Nat} {v : Value} {xs : List Int} (h : OwnB w base v xs) : ∃ s : ByteArray, s.size = xs.length ∧ (convert 22 9 v).run Try.prog w = .ok (.string s) w := by
  rcases h.2 with ⟨rfl, hn⟩ | ⟨g, cap, cur, rfl, h1, h2, h3, h4, h5, h6⟩
  · refine ⟨ByteArray.empty, by rw [hn]; rfl, ?_⟩
    exact run_convert_bytes_nil w 22 5 Try.underlying22 Try.underlying5 _ _ 9 Try.underlying9
  · refine ⟨strOfNums xs, strOfNums_size xs, run_convert_bytes_arg w 22 5 Try.underlying22 Try.underlying5 g 0 xs.length cap xs rfl (fun i hi => ?_) 9 Try.underlying9⟩
    rw [cell_of_row _ _ _ _ _ _ h2, Nat.zero_add]
    have h7 : (cur.toList.take (xs.length * 1))[i]? = some (.int .u8 xs[i]) := by rw [h6, List.getElem?_map, List.getElem?_eq_getElem hi]; rfl
    rw [List.getElem?_take, if_pos (by omega)] at h7
    rw [← Array.getElem?_toList, h7]
    simp [List.getD, List.getElem?_eq_getElem hi]

/-- What grew above a world in which the reader was leaves the reader. -/
theorem Rdr.grown {w w' w'' : World} {R : Nat} {a : Option Addr} {len cap : Nat} {zs : List Int} (h0 : Rdr w R a len cap zs) (h : Rdr w' R a len cap zs) (hb : Below w.heap.size w' w'') : Rdr w'' R a len cap zs := by
  have hR : R < w.heap.size := cell_lt h0.code
  obtain ⟨i, hi, hi1⟩ := h.place
  refine ⟨(hb.cell (p := ⟨R, 0, none⟩) hR).trans h.code, ⟨i, hi, (hb.cell (p := ⟨R, 1, none⟩) hR).trans hi1⟩, (hb.frozen (p := ⟨R, 1, none⟩) hR).trans h.free, ?_, h.apart⟩
  rcases h0.row with e | ⟨x, rfl, hl, hm, hz, hcell, hwz⟩
  · exact .inl e
  · rcases h.row with ⟨e, _⟩ | ⟨x', e, _, _, _, hcell', _⟩
    · cases e
    · cases e
      exact .inr ⟨x, rfl, hl, hm, hz, fun i hi => (hb.cell (cell_lt (hcell i hi))).trans (hcell' i hi), hwz⟩
theorem But.grown {w w' w'' : World} {R : Nat} (h : But R w w') (hb : Below w.heap.size w' w'') : But R w w'' :=
  ⟨hb.os.trans h.os, hb.tape.trans h.tape, hb.output.trans h.output, Nat.le_trans h.size hb.size, fun k hk hr => (hb.block k hk).trans (h.block k hk hr)⟩

end Go.Proofs.Ytkinegapnknhiaa
