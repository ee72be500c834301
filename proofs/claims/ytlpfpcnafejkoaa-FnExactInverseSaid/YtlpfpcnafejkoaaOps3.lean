/-
  Contracts on the ops of expressions, of the program.
-/
import Derived.Test.YtlpfpcnafejkoaaOps2
import Derived.Test.YtlpfpcnafejkoaaOrder
namespace Go.Proofs.Ytlpfpcnafejkoaa
open Go.RowKit

theorem as_not_not (v : Value) (w : World) : (Instr.typeAssert (.iface 103 v) 97 103 true).run Try.prog w = .ok (.tuple #[v, .bool true]) w := by kernel_rfl
theorem as_num_not (v : Value) (w : World) : (Instr.typeAssert (.iface 104 v) 97 103 true).run Try.prog w = .ok (.tuple #[.agg #[], .bool false]) w := by kernel_rfl
theorem as_str_not (v : Value) (w : World) : (Instr.typeAssert (.iface 105 v) 97 103 true).run Try.prog w = .ok (.tuple #[.agg #[], .bool false]) w := by kernel_rfl

theorem held0V (n : Int) (s : ByteArray) : heldV 0 n s = .iface 103 (.agg #[]) := by simp [heldV]
theorem held1V (n : Int) (s : ByteArray) : heldV 1 n s = .iface 104 (.int .i64 n) := by simp [heldV]
theorem held2V (n : Int) (s : ByteArray) : heldV 2 n s = .iface 105 (.string s) := by simp [heldV]


end Go.Proofs.Ytlpfpcnafejkoaa
