/-
  Contracts on the value of a part, in the program.
-/
import Derived.Test.YtoomnhfmlfmckaaOps5
import Derived.Test.YtoomnhfmlfmckaaExprOk2
namespace Go.Proofs.Ytoomnhfmlfmckaa
open Go.RowKit


end Go.Proofs.Ytoomnhfmlfmckaa
