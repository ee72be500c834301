/-
  Contracts on the ops of expressions, of the program.
-/
import Derived.Test.YtgmgjjoalpnmhaaOps2
import Derived.Test.YtgmgjjoalpnmhaaOrder
namespace Go.Proofs.Ytgmgjjoalpnmhaa
open Go.RowKit

theorem as_not_not (v : Value) (w : World) : (Instr.typeAssert (.iface 52 v) 48 52 true).run Try.prog w = .ok (.tuple #[v, .bool true]) w := by kernel_rfl
theorem as_num_not (v : Value) (w : World) : (Instr.typeAssert (.iface 53 v) 48 52 true).run Try.prog w = .ok (.tuple #[.agg #[], .bool false]) w := by kernel_rfl
theorem as_str_not (v : Value) (w : World) : (Instr.typeAssert (.iface 54 v) 48 52 true).run Try.prog w = .ok (.tuple #[.agg #[], .bool false]) w := by kernel_rfl

theorem held0V (n : Int) (s : ByteArray) : heldV 0 n s = .iface 52 (.agg #[]) := by simp [heldV]
theorem held1V (n : Int) (s : ByteArray) : heldV 1 n s = .iface 53 (.int .i64 n) := by simp [heldV]
theorem held2V (n : Int) (s : ByteArray) : heldV 2 n s = .iface 54 (.string s) := by simp [heldV]


end Go.Proofs.Ytgmgjjoalpnmhaa
