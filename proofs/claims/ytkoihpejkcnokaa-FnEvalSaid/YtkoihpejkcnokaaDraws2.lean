/-
  Contracts of the functions that draw values out of a code: each drawn Val is as the laws want it, nothing that was there has turned.
-/
import Derived.Test.YtkoihpejkcnokaaDraws
import Derived.Test.YtkoihpejkcnokaaVals
import Derived.BigRegion
import Derived.Deep.RegionHeld3
namespace Go.Proofs.Ytkoihpejkcnokaa
open Go.RowKit

def isVal (v : Value) (_ : World) : Prop := ∃ k n s, v = .agg #[.int .i64 k, .int .i64 n, .string s] ∧ IsVal k n s

theorem okV_valOkB {k n : Int} {s : ByteArray} (h : okV k n s) : valOkB k n s = true := by
  rcases h with ⟨rfl, rfl, rfl⟩ | ⟨rfl, h1, h2, rfl⟩ | ⟨rfl, rfl, h⟩
  · simp [valOkB]
  · simp [valOkB, h1, h2]
  · simp [valOkB]; omega

/-- Block b of w is a Val, whole. -/
def Blk (w : World) (b : Nat) (k n : Int) (s : ByteArray) : Prop := w.heap[b]? = some (.cells #[.int .i64 k, .int .i64 n, .string s] 30)

theorem Blk.cells {w : World} {b : Nat} {k n : Int} {s : ByteArray} (h : Blk w b k n s) :
    w.cell? ⟨b, 0, none⟩ = some (.int .i64 k) ∧ w.cell? ⟨b, 1, none⟩ = some (.int .i64 n) ∧ w.cell? ⟨b, 2, none⟩ = some (.string s) := by
  unfold Blk at h
  simp [World.cell?, h]
theorem Blk.free {w : World} {b : Nat} {k n : Int} {s : ByteArray} (h : Blk w b k n s) :
    w.frozen? ⟨b, 0, none⟩ = false ∧ w.frozen? ⟨b, 1, none⟩ = false ∧ w.frozen? ⟨b, 2, none⟩ = false := by
  unfold Blk at h
  simp [World.frozen?, h]
theorem Blk.lt {w : World} {b : Nat} {k n : Int} {s : ByteArray} (h : Blk w b k n s) : b < w.heap.size := by
  have := h.cells.1; exact cell_lt this
theorem Blk.but {w w' : World} {R b : Nat} {k n : Int} {s : ByteArray} (h : Blk w b k n s) (hb : But R w w') (hr : b ≠ R) : Blk w' b k n s := (hb.block b h.lt hr).trans h
theorem Blk.alloc {w : World} {b : Nat} {k n : Int} {s : ByteArray} (h : Blk w b k n s) (o : Obj) : Blk (w.alloc o) b k n s := (Below.heap_alloc w o b h.lt).trans h
theorem Blk.new (w : World) (k n : Int) (s : ByteArray) : Blk (w.alloc (.cells #[.int .i64 k, .int .i64 n, .string s] 30)) w.heap.size k n s := by
  show (w.heap.push _)[w.heap.size]? = _
  simp

/-- A cell behind three stores into another block. -/
theorem stay3 {w : World} {b c i : Nat} {x y z v : Value} (h : b ≠ c) (hc : w.cell? ⟨c, i, none⟩ = some v) :
    (((w.setCell ⟨b, 0, none⟩ x).setCell ⟨b, 1, none⟩ y).setCell ⟨b, 2, none⟩ z).cell? ⟨c, i, none⟩ = some v := by
  have e : ∀ o, (⟨b, o, none⟩ : Addr) ≠ ⟨c, i, none⟩ := fun o he => h (congrArg Addr.block he)
  rw [World.cell?_setCell_other _ _ _ _ (e 2), World.cell?_setCell_other _ _ _ _ (e 1), World.cell?_setCell_other _ _ _ _ (e 0)]; exact hc

/-- Three cells that may be written. -/
def Wr (w : World) (b : Nat) : Prop := (∃ v, w.cell? ⟨b, 0, none⟩ = some v) ∧ (∃ v, w.cell? ⟨b, 1, none⟩ = some v) ∧ (∃ v, w.cell? ⟨b, 2, none⟩ = some v) ∧ w.frozen? ⟨b, 0, none⟩ = false ∧ w.frozen? ⟨b, 1, none⟩ = false ∧ w.frozen? ⟨b, 2, none⟩ = false
theorem Blk.wr {w : World} {b : Nat} {k n : Int} {s : ByteArray} (h : Blk w b k n s) : Wr w b := ⟨⟨_, h.cells.1⟩, ⟨_, h.cells.2.1⟩, ⟨_, h.cells.2.2⟩, h.free.1, h.free.2.1, h.free.2.2⟩
theorem Wr.lt {w : World} {b : Nat} (h : Wr w b) : b < w.heap.size := by obtain ⟨⟨v, hv⟩, _⟩ := h; exact cell_lt hv
theorem Wr.but {w w' : World} {R b : Nat} (h : Wr w b) (hb : But R w w') (hr : b ≠ R) : Wr w' b := by
  have hl := h.lt
  obtain ⟨⟨v0, h0⟩, ⟨v1, h1⟩, ⟨v2, h2⟩, f0, f1, f2⟩ := h
  exact ⟨⟨v0, (hb.cell hl hr).trans h0⟩, ⟨v1, (hb.cell hl hr).trans h1⟩, ⟨v2, (hb.cell hl hr).trans h2⟩, (hb.frozen hl hr).trans f0, (hb.frozen hl hr).trans f1, (hb.frozen hl hr).trans f2⟩
theorem Wr.set {w : World} {b : Nat} (h : Wr w b) (p : Addr) (x : Value) : Wr (w.setCell p x) b := by
  obtain ⟨⟨v0, h0⟩, ⟨v1, h1⟩, ⟨v2, h2⟩, f0, f1, f2⟩ := h
  have e : ∀ q v, w.cell? q = some v → ∃ u, (w.setCell p x).cell? q = some u := fun q v hq => by
    by_cases hpq : p = q
    · subst hpq; exact ⟨_, World.cell?_setCell_same _ _ _ hq⟩
    · exact ⟨_, (World.cell?_setCell_other _ _ _ _ hpq).trans hq⟩
  exact ⟨e _ _ h0, e _ _ h1, e _ _ h2, (World.frozen?_setCell _ _ _ _).trans f0, (World.frozen?_setCell _ _ _ _).trans f1, (World.frozen?_setCell _ _ _ _).trans f2⟩

theorem Wr.drew {w : World} {b : Nat} (h : Wr w b) : Wr w.drew b := h
theorem But.undrew {R : Nat} {w w' : World} (h : But R w.drew w') : But R w w' := ⟨h.os, h.tape, h.output, h.size, h.block⟩

/-- A store into a block that is neither the reader's nor one that the code lies in. -/
theorem Rdr.setOut {w0 w : World} {R : Nat} {a : Option Addr} {len cap : Nat} {zs : List Int} (h0 : IsRow .u8 w0 a len cap zs) (h : Rdr w R a len cap zs) {p : Addr} (hp : w0.heap.size ≤ p.block) (hR : p.block ≠ R) (v : Value) : Rdr (w.setCell p v) R a len cap zs := by
  have hc : ∀ q : Addr, q.block ≠ p.block → (w.setCell p v).cell? q = w.cell? q := fun q hq => World.cell?_setCell_other _ _ _ _ (fun e => hq (by rw [e]))
  obtain ⟨i, hi, hi1⟩ := h.place
  refine ⟨(hc _ hR.symm).trans h.code, ⟨i, hi, (hc _ hR.symm).trans hi1⟩, (World.frozen?_setCell _ _ _ _).trans h.free, ?_, h.apart⟩
  rcases h0 with e | ⟨x, rfl, hl, hm, hz, hcell, hwz⟩
  · exact .inl e
  · rcases h.row with ⟨e, _⟩ | ⟨x', e, _, _, _, hcell', _⟩
    · cases e
    · cases e
      exact .inr ⟨x, rfl, hl, hm, hz, fun i hi => (hc _ (Nat.ne_of_lt (Nat.lt_of_lt_of_le (cell_lt (hcell i hi)) hp))).trans (hcell' i hi), hwz⟩
theorem Rdr.drew {w : World} {R : Nat} {a : Option Addr} {len cap : Nat} {zs : List Int} (h : Rdr w R a len cap zs) : Rdr w.drew R a len cap zs := ⟨h.code, h.place, h.free, h.row, h.apart⟩

end Go.Proofs.Ytkoihpejkcnokaa
