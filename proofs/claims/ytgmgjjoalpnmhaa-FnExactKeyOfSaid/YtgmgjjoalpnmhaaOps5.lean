/-
  Contracts on the ops of expressions, of the program: sums, nots, nulls.
-/
import Derived.Test.YtgmgjjoalpnmhaaOps4
namespace Go.Proofs.Ytgmgjjoalpnmhaa
open Go.RowKit

end Go.Proofs.Ytgmgjjoalpnmhaa
