/-
  Contracts on the parts of an expression: which are right, in the program and in the model; slices of parts.
-/
import Derived.Test.YtkinegapnknhiaaOrder
import Derived.Test.YtkinegapnknhiaaExprMath
import Derived.Test.YtkinegapnknhiaaSlices
namespace Go.Proofs.Ytkinegapnknhiaa
open Go.RowKit

def Tk.cells (t : Tk) : List Value := [.int .i64 t.k, .int .i64 t.c, .int .i64 t.vk, .int .i64 t.vn, .string t.vs]
/-- A slice of parts. -/
def Toks (w : World) (A : Option Addr) (n : Nat) (ts : List Tk) : Prop := Cellz w 5 A n (ts.map Tk.cells)

theorem Toks.len {w : World} {A : Option Addr} {n : Nat} {ts : List Tk} (h : Toks w A n ts) : ts.length = n := by simpa using h.1
theorem Toks.below {w w' : World} {A : Option Addr} {n : Nat} {ts : List Tk} (h : Toks w A n ts) (hb : Below w.heap.size w w') : Toks w' A n ts := Cellz.below h hb
theorem Toks.at_ {w : World} {A : Option Addr} {n : Nat} {ts : List Tk} (h : Toks w A n ts) {i : Nat} (hi : i < ts.length) :
    ∃ b off, A = some ⟨b, off, none⟩ ∧ w.cell? ⟨b, off + i * 5, none⟩ = some (.int .i64 ts[i].k) ∧ w.cell? ⟨b, off + i * 5 + 1, none⟩ = some (.int .i64 ts[i].c) ∧
      w.cell? ⟨b, off + i * 5 + 2, none⟩ = some (.int .i64 ts[i].vk) ∧ w.cell? ⟨b, off + i * 5 + 3, none⟩ = some (.int .i64 ts[i].vn) ∧ w.cell? ⟨b, off + i * 5 + 4, none⟩ = some (.string ts[i].vs) := by
  have hl := h.len
  obtain ⟨b, off, rfl, hc⟩ := h.2.2 (by omega)
  have hi' : i < (ts.map Tk.cells).length := by simpa using hi
  have g : ∀ j v, ts[i].cells[j]? = some v → w.cell? ⟨b, off + i * 5 + j, none⟩ = some v := by
    intro j v hv
    have e : (ts.map Tk.cells)[i] = ts[i].cells := by simp
    obtain ⟨hj, hv'⟩ := List.getElem?_eq_some_iff.1 hv
    have := hc i hi' j (by rw [e]; exact hj)
    rw [Nat.add_assoc, this]
    simp only [e, hv']
  exact ⟨b, off, rfl, g 0 _ rfl, g 1 _ rfl, g 2 _ rfl, g 3 _ rfl, g 4 _ rfl⟩

end Go.Proofs.Ytkinegapnknhiaa
