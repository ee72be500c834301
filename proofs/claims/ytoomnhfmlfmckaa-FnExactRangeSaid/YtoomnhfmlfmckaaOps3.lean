/-
  Contracts on the ops of expressions, of the program.
-/
import Derived.Test.YtoomnhfmlfmckaaOps2
import Derived.Test.YtoomnhfmlfmckaaOrder
namespace Go.Proofs.Ytoomnhfmlfmckaa
open Go.RowKit

theorem as_not_not (v : Value) (w : World) : (Instr.typeAssert (.iface 87 v) 71 87 true).run Try.prog w = .ok (.tuple #[v, .bool true]) w := by kernel_rfl
theorem as_num_not (v : Value) (w : World) : (Instr.typeAssert (.iface 88 v) 71 87 true).run Try.prog w = .ok (.tuple #[.agg #[], .bool false]) w := by kernel_rfl
theorem as_str_not (v : Value) (w : World) : (Instr.typeAssert (.iface 89 v) 71 87 true).run Try.prog w = .ok (.tuple #[.agg #[], .bool false]) w := by kernel_rfl

theorem held0V (n : Int) (s : ByteArray) : heldV 0 n s = .iface 87 (.agg #[]) := by simp [heldV]
theorem held1V (n : Int) (s : ByteArray) : heldV 1 n s = .iface 88 (.int .i64 n) := by simp [heldV]
theorem held2V (n : Int) (s : ByteArray) : heldV 2 n s = .iface 89 (.string s) := by simp [heldV]


end Go.Proofs.Ytoomnhfmlfmckaa
