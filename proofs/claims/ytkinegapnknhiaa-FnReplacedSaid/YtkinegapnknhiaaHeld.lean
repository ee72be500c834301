/-
  Contracts on values: heldBy, which tells what a right value holds.
-/
import Derived.Test.YtkinegapnknhiaaVals
import Derived.Deep.RegionWith
namespace Go.Proofs.Ytkinegapnknhiaa
open Go.RowKit

theorem chain1 (w : World) (o : Obj) {w1 : World} (hb : Below (w.alloc o).drew.heap.size (w.alloc o).drew w1) : Below w.heap.size w w1 :=
  (((Below.refl _ w).alloc (Nat.le_refl _) o).drew).trans (hb.mono (by simp))

/-- The cells of a boxed Val behind a call that makes memory. -/
theorem boxed {w w1 : World} {k n : Int} {s : ByteArray} {T : TypeId} (hb : Below (w.alloc (.cells #[.int .i64 k, .int .i64 n, .string s] T)).drew.heap.size (w.alloc (.cells #[.int .i64 k, .int .i64 n, .string s] T)).drew w1) :
    w1.cell? ⟨w.heap.size, 0, none⟩ = some (.int .i64 k) ∧ w1.cell? ⟨w.heap.size, 1, none⟩ = some (.int .i64 n) ∧ w1.cell? ⟨w.heap.size, 2, none⟩ = some (.string s) := by
  refine ⟨?_, ?_, ?_⟩ <;> (rw [hb.cell (by simp)]; simp)

def HeldNo (w : World) (e : Ending) (w' : World) : Prop := e = .returned (.tuple #[.nilIface, .bool false]) ∧ Below w.heap.size w w'


end Go.Proofs.Ytkinegapnknhiaa
