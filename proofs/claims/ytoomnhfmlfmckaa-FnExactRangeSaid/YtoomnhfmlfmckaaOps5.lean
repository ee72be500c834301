/-
  Contracts on the ops of expressions, of the program: sums, nots, nulls.
-/
import Derived.Test.YtoomnhfmlfmckaaOps4
namespace Go.Proofs.Ytoomnhfmlfmckaa
open Go.RowKit

end Go.Proofs.Ytoomnhfmlfmckaa
