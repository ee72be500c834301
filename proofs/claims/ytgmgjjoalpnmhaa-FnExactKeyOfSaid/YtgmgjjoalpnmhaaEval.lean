/-
  Contracts on the value of a part, in the program.
-/
import Derived.Test.YtgmgjjoalpnmhaaOps5
import Derived.Test.YtgmgjjoalpnmhaaExprOk2
namespace Go.Proofs.Ytgmgjjoalpnmhaa
open Go.RowKit


end Go.Proofs.Ytgmgjjoalpnmhaa
