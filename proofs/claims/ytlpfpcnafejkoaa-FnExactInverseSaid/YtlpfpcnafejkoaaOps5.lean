/-
  Contracts on the ops of expressions, of the program: sums, nots, nulls.
-/
import Derived.Test.YtlpfpcnafejkoaaOps4
namespace Go.Proofs.Ytlpfpcnafejkoaa
open Go.RowKit

end Go.Proofs.Ytlpfpcnafejkoaa
