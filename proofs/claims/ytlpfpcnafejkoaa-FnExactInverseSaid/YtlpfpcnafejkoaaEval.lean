/-
  Contracts on the value of a part, in the program.
-/
import Derived.Test.YtlpfpcnafejkoaaOps5
import Derived.Test.YtlpfpcnafejkoaaExprOk2
namespace Go.Proofs.Ytlpfpcnafejkoaa
open Go.RowKit


end Go.Proofs.Ytlpfpcnafejkoaa
