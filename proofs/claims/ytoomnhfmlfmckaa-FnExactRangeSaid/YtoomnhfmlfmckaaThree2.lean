/-
  Contracts on Equal3 and Less3 of the model.
-/
import Derived.Test.YtoomnhfmlfmckaaThree
namespace Go.Proofs.Ytoomnhfmlfmckaa
open Go.RowKit

end Go.Proofs.Ytoomnhfmlfmckaa
