/-
  Contracts: a column by its name.
-/
import Derived.Test.YtoomnhfmlfmckaaTableAt
namespace Go.Proofs.Ytoomnhfmlfmckaa
open Go.RowKit Go.Maps
set_option linter.unusedVariables false

end Go.Proofs.Ytoomnhfmlfmckaa
