/-
  Contracts on the value of a part, in the program.
-/
import Derived.Test.YtbdbealabffccaaGreatOps5
import Derived.Test.YtbdbealabffccaaGreatExprOk2
namespace Go.Proofs.YtbdbealabffccaaGreat
open Go.RowKit


end Go.Proofs.YtbdbealabffccaaGreat
