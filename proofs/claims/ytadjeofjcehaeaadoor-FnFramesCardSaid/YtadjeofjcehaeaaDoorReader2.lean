/-
  Contracts of the reader, more: near, off, val, l1Open.
-/
import Derived.Test.YtadjeofjcehaeaaDoorReader
import Derived.Test.YtadjeofjcehaeaaDoorVals
namespace Go.Proofs.YtadjeofjcehaeaaDoor
open Go.RowKit

theorem Rdr.alloc {w : World} {R : Nat} {a : Option Addr} {len cap : Nat} {zs : List Int} (h : Rdr w R a len cap zs) (o : Obj) : Rdr (w.alloc o) R a len cap zs := by
  obtain ⟨p, hp, hc1⟩ := h.place
  have hlt : R < w.heap.size := cell_lt h.code
  have hb : But (w.heap.size) w (w.alloc o) := (But.refl _ _).alloc o
  exact ⟨(hb.cell hlt (Nat.ne_of_lt hlt)).trans h.code, ⟨p, hp, (hb.cell hlt (Nat.ne_of_lt hlt)).trans hc1⟩, (hb.frozen hlt (Nat.ne_of_lt hlt)).trans h.free,
    h.row.but ((But.refl R w).alloc o) h.apart, h.apart⟩

/-- A cell of a block that has just been laid, behind a call that drew. -/
theorem new_cell {R : Nat} {w w' : World} {xs : Array Value} {T : TypeId} (hb : But R (w.alloc (.cells xs T)) w') (hR : R < w.heap.size) (k : Nat) (hk : k < xs.size) : w'.cell? ⟨w.heap.size, k, none⟩ = some xs[k] := by
  rw [hb.cell (by simp) (by simpa using Nat.ne_of_gt hR), World.cell?_alloc_new]
  simp [hk]

theorem new_free {R : Nat} {w w' : World} {xs : Array Value} {T : TypeId} (hb : But R (w.alloc (.cells xs T)) w') (hR : R < w.heap.size) (k : Nat) : w'.frozen? ⟨w.heap.size, k, none⟩ = false := by
  rw [hb.frozen (by simp) (by simpa using Nat.ne_of_gt hR)]
  exact World.frozen?_alloc_at xs T _ k rfl

/-- A store into a block that is newer than a world in which the reader was. -/
theorem Rdr.setNew {w w' : World} {R : Nat} {a : Option Addr} {len cap : Nat} {zs : List Int} (h0 : Rdr w R a len cap zs) (h : Rdr w' R a len cap zs) {p : Addr} (hp : w.heap.size ≤ p.block) (v : Value) : Rdr (w'.setCell p v) R a len cap zs := by
  have hR : R < w.heap.size := cell_lt h0.code
  have hc : ∀ q : Addr, q.block < w.heap.size → (w'.setCell p v).cell? q = w'.cell? q := fun q hq => World.cell?_setCell_other _ _ _ _ (fun e => by subst e; omega)
  obtain ⟨i, hi, hi1⟩ := h.place
  refine ⟨(hc _ hR).trans h.code, ⟨i, hi, (hc _ hR).trans hi1⟩, (World.frozen?_setCell _ _ _ _).trans h.free, ?_, h.apart⟩
  rcases h0.row with e | ⟨x, rfl, hl, hm, hz, hcell, hwz⟩
  · exact .inl e
  · rcases h.row with ⟨e, _⟩ | ⟨x', e, _, _, _, hcell', _⟩
    · cases e
    · cases e
      exact .inr ⟨x, rfl, hl, hm, hz, fun i hi => (hc _ (cell_lt (hcell i hi))).trans (hcell' i hi), hwz⟩

theorem short_str {xs : List Value} (h : ∀ v ∈ xs, ∃ s : ByteArray, v = .string s ∧ s.size ≤ 12) {j : Nat} (hj : j < xs.length) : ∃ s : ByteArray, xs[j] = .string s ∧ s.size ≤ 12 := h _ (List.getElem_mem _)
theorem small_int {xs : List Value} (h : ∀ v ∈ xs, ∃ n : Int, v = .int .i64 n ∧ -1000000000 ≤ n ∧ n ≤ 1000000000) {j : Nat} (hj : j < xs.length) : ∃ n : Int, xs[j] = .int .i64 n ∧ -1000000000 ≤ n ∧ n ≤ 1000000000 := h _ (List.getElem_mem _)
theorem below_nat {y n : Int} (h0 : 0 ≤ y) (h1 : y = 0 ∨ y < n) (hn : 0 < n) : ∃ j : Nat, y = (j : Int) ∧ (j : Int) < n := by
  obtain ⟨j, rfl⟩ := Int.eq_ofNat_of_zero_le h0
  exact ⟨j, rfl, by omega⟩
theorem six {x n : Int} (h0 : 0 ≤ x) (h1 : x = 0 ∨ x < n) (hn : n = 6) : x = 0 ∨ x = 1 ∨ x = 2 ∨ x = 3 ∨ x = 4 ∨ x = 5 := by omega
theorem four {x n : Int} (h0 : 0 ≤ x) (h1 : x = 0 ∨ x < n) (hn : n = 4) : x = 0 ∨ x = 1 ∨ x = 2 ∨ x = 3 := by omega

/-- A right value, by its fields. -/
def okV (k n : Int) (s : ByteArray) : Prop := (k = 0 ∧ n = 0 ∧ s = ⟨#[]⟩) ∨ (k = 1 ∧ -1000000000 ≤ n ∧ n ≤ 1000000000 ∧ s = ⟨#[]⟩) ∨ (k = 2 ∧ n = 0 ∧ s.size ≤ 12)

/-- A Val as the model holds one. -/
def vV (k n : Int) (s : ByteArray) : Value := .agg #[.int .i64 k, .int .i64 n, .string s]

def isOkVal (v : Value) (_ : World) : Prop := ∃ k n s, v = .agg #[.int .i64 k, .int .i64 n, .string s] ∧ okV k n s

end Go.Proofs.YtadjeofjcehaeaaDoor
