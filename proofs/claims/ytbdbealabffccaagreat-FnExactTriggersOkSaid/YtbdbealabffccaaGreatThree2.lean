/-
  Contracts on Equal3 and Less3 of the model.
-/
import Derived.Test.YtbdbealabffccaaGreatThree
namespace Go.Proofs.YtbdbealabffccaaGreat
open Go.RowKit

end Go.Proofs.YtbdbealabffccaaGreat
